/-
  What package state's keyOf, numbers, connVal and chanVal answer: keys, and the bytes of numbers.
-/
import Derived.Test.YtclhcjiblfokaaaGreatDoorpnStApp
import Derived.Test.YtclhcjiblfokaaaGreatDoorpnStMem
import Derived.Deep.RegionHeld3
import Derived.Deep.RegionWith
namespace Go.Proofs.YtclhcjiblfokaaaGreatDoor
open Go.RowKit

theorem keyL_flat (l : List Nat) : ∀ (k : List (BitVec 8)), keyL k l = k ++ l.flatMap (fun n => 47 :: digN n) := by
  induction l with
  | nil => intro k; simp [keyL]
  | cons n l ih => intro k; rw [keyL, ih, List.flatMap_cons]; simp
/-- a conversion's row is the call's own -/
theorem text_own (w : World) (s : ByteArray) (hs : s.size ≤ 1000) : OwnM (Lib.bytesWorld w 5 s) w.heap.size (.slice (some ⟨w.heap.size, 0, none⟩) s.size (grownCap w s.size 0 5)) (lets s) := by
  have hge := grownCap_ge w s.size 0 5
  have hcs : (Lib.bytesCells w 5 s).size = grownCap w s.size 0 5 := by
    have : s.data.size = s.size := rfl
    simp [Lib.bytesCells]; omega
  refine ⟨w.heap.size, _, _, _, by rw [lets_length], Nat.le_refl _, Lib.bytesWorld_at_new w 5 s, .inr (Nat.le_refl _), by rw [lets_length]; exact hge, grownCap_le_maxLen w s.size 0 5 (by simp only [maxLen]; omega), hcs, ?_⟩
  rw [lets_length]
  unfold Lib.bytesCells lets
  have e : s.size = (s.data.map fun b => Value.int .u8 (b.toNat : Int)).toList.length := by simp
  rw [Array.toList_append, e, List.take_left]
  simp [V, b8]
theorem one_new (w : World) (b : BitVec 8) : Bytes (w.alloc (.cells #[.int .u8 (b8 b)] 5)) (w.heap.size + 1) (.slice (some ⟨w.heap.size, 0, none⟩) 1 1) [b] := by
  refine .inr (.inr ⟨w.heap.size, 0, 1, rfl, by simp, fun i hi => ⟨by omega, ?_⟩⟩)
  obtain rfl : i = 0 := by simpa using hi
  rw [Row.cell (Row.new w 5 [.int .u8 (b8 b)])]
  rfl
def keyP (k : List (BitVec 8)) (ns : List Int) (j : Nat) : List (BitVec 8) := k ++ (ns.take j).flatMap (fun n => 47 :: digN n.toNat)
theorem keyP_next (k : List (BitVec 8)) (ns : List Int) (j : Nat) (n : Int) (h : ns[j]? = some n) : keyP k ns (j + 1) = keyP k ns j ++ [47] ++ digN n.toNat := by
  unfold keyP
  rw [List.take_add_one, h]
  simp
theorem keyP_all (k : List (BitVec 8)) (ns : List Int) (j : Nat) (h : ns.length ≤ j) : keyP k ns j = keyL k (ns.map (·.toNat)) := by
  unfold keyP
  rw [keyL_flat, List.take_of_length_le h, List.flatMap_map]
theorem keyP_len (k : List (BitVec 8)) (ns : List Int) (hp : ∀ n ∈ ns, 0 ≤ n ∧ n ≤ 1000000000000) : ∀ j, j ≤ ns.length → (keyP k ns j).length ≤ k.length + 14 * j := by
  intro j
  induction j with
  | zero => intro _; simp [keyP]
  | succ j ih =>
    intro hj
    obtain ⟨n, hn⟩ : ∃ n, ns[j]? = some n := ⟨_, List.getElem?_eq_getElem (by omega)⟩
    have := ih (by omega)
    have h2 := hp n (List.mem_of_getElem? hn)
    have h3 := digN_len 12 n.toNat (by omega)
    rw [keyP_next k ns j n hn]
    simp only [List.length_append, List.length_singleton]
    omega
set_option maxRecDepth 100000 in
set_option maxHeartbeats 4000000 in
theorem keyOf_any (kind : ByteArray) (ns : List Int) (g n : Nat) (w : World) (hk : kind.size ≤ 100) (hr : Row w g 3 (ns.map (Value.int .i64))) (hn : n = ns.length) (hl : n ≤ 10) (hp : ∀ n ∈ ns, 0 ≤ n ∧ n ≤ 1000000000000) (htab : powAt w) :
    Calls Tryz.prog 99 #[.string kind, .slice (some ⟨g, 0, none⟩) n n] w fun e w' => ∃ v, e = .returned v ∧ OwnM w' w.heap.size v (keyL (lets kind) (ns.map (·.toNat))) ∧ Below w.heap.size w w' := by
  have hgl := hr.lt
  have hcv := conv_text w kind
  obtain ⟨wb, hwb⟩ : ∃ wb, Lib.bytesWorld w 5 kind = wb := ⟨_, rfl⟩
  have hown0 := text_own w kind (by omega)
  have hb0 := text_below w kind
  rw [hwb] at hcv hown0 hb0
  have HB0 := hid hb0
  have HO0 := hid hown0
  have HR := hid hr
  have HT := hid htab
  have HP := hid hp
  have HN := hid hn
  have hlk : (lets kind).length ≤ 100 := by rw [lets_length]; exact hk
  have HLN := hid (keyP_len (lets kind) ns hp)
  clear hr htab hown0 hb0 hwb hp hn
  go_enter Tryz.func99, Tryz.ntmps99
  go_wp2_with fail
  go_loopw [5, 7, 12] (fun o _ i wr => ∃ k : Nat, k ≤ n ∧ i = .int .i64 (k : Int) ∧ Hid (OwnM wr w.heap.size o (keyP (lets kind) ns k) ∧ Below w.heap.size w wr)) (fun _ _ i _ => n - (intOf i).toNat)
  case atStart => exact ⟨0, by omega, rfl, hid ⟨by have := HO0.out; simpa [keyP] using this, HB0.out⟩⟩
  case round =>
    obtain ⟨k, hk', rfl, HI⟩ := hrel
    have HBW := hid HI.out.2
    have HOW := hid HI.out.1
    have hszw := HBW.out.size
    clear HI
    by_cases hlt : k < n
    · obtain ⟨x, hx⟩ : ∃ x, ns[k]? = some x := ⟨ns[k]'(by rw [← HN.out]; exact hlt), List.getElem?_eq_getElem _⟩
      have hlt' : (k : Int) < (n : Int) := by omega
      have c0 : wr.cell? ⟨g, k, none⟩ = some (.int .i64 x) := by rw [(HR.out.below HBW.out hgl).cell, List.getElem?_map, hx]; rfl
      have hx0 := HP.out x (List.mem_of_getElem? hx)
      obtain ⟨u, rfl⟩ : ∃ u : Nat, x = (u : Int) := ⟨x.toNat, by omega⟩
      have HX := hid hx
      have HNX := hid (keyP_next (lets kind) ns k _ hx)
      have hln := HLN.out k (by rw [← HN.out]; omega)
      clear hx
      go_wp2_with (at_builtin; refine Hid.out ?_)
      refine hid ?_
      refine wpList_appendM rfl (.tmp 16) (.tmp 17) rfl w.heap.size _ _ (keyP (lets kind) ns k) [47] rfl (HOW.out.below ((Below.refl _ _).alloc (Nat.le_refl _) _)) (wr.heap.size + 1) rfl (one_new wr 47) (by simp; omega) (by simp; omega) ?_
      intro v1 w1 ho1 hb1 _
      have HB1 := hid (HBW.out.trans (((Below.refl _ _).alloc hszw _).trans hb1))
      have HAP := hid (appendInt_any u (by omega) _ v1 w.heap.size w1 HB1.out.size ho1 (by simp; omega) (HT.out.below HB1.out))
      clear ho1 hb1
      go_wp2_with (go_at_call 142; refine (HAP.out).mono ?_; rintro e w2 ⟨v2, rfl, ho2, hb2, -⟩)
      go_roundw
      case rel => exact ⟨k + 1, by omega, by go_num, hid ⟨by rw [HNX.out]; exact ho2, HB1.out.trans hb2⟩⟩
      case measure => simp [intOf]; omega
    · have hge : decide ((k : Int) < (n : Int)) = false := by simp; omega
      have HE := hid (keyP_all (lets kind) ns k (by rw [← HN.out]; omega))
      obtain ⟨ov, hov⟩ : ∃ ov, u5 = ov := ⟨_, rfl⟩
      go_wp2
      go_ret
      exact ⟨_, rfl, by rw [← HE.out]; exact HOW.out, HBW.out⟩
theorem OwnM.mono {w : World} {base base' : Nat} {v : Value} {l : List (BitVec 8)} (h : OwnM w base v l) (hb : base' ≤ base) : OwnM w base' v l := by
  obtain ⟨g, cap, cur, fz, h1, h2, h3⟩ := h
  exact ⟨g, cap, cur, fz, h1, Nat.le_trans hb h2, h3⟩
end Go.Proofs.YtclhcjiblfokaaaGreatDoor
