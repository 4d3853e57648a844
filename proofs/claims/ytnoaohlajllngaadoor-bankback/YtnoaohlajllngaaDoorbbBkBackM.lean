/-
  There and back: what left a purse, and came back, leaves all as it was.
-/
import Derived.Test.YtnoaohlajllngaaDoorbbBkSafe
namespace Go.Proofs.YtnoaohlajllngaaDoor
open Go.RowKit

theorem burnE_words {l : List Pu} {o d : ByteArray} {n : Nat} (h : burnE l o d n = 0) : wordB o = true ∧ wordB d = true := by
  unfold burnE at h
  split at h
  · cases h
  · rename_i hw; simpa using hw
theorem mintE_words {l : List Pu} {o d : ByteArray} {n : Nat} (h : mintE l o d n = 0) : wordB o = true ∧ wordB d = true := by
  unfold mintE at h
  split at h
  · cases h
  · rename_i hw; simpa using hw
theorem moveE_parts {l : List Pu} {a b d : ByteArray} {n : Nat} (h : moveE l a b d n = 0) : burnE l a d n = 0 ∧ mintE (burnL l a d n) b d n = 0 := by
  unfold moveE at h
  by_cases h1 : burnE l a d n = 0
  · rw [if_neg (by simp [h1])] at h; exact ⟨h1, h⟩
  · rw [if_pos h1] at h; exact absurd h h1
/-- minted where there is room for it -/
theorem mintE_room {l : List Pu} {o d : ByteArray} {n : Nat} (ho : wordB o = true) (hd : wordB d = true) (hn : 0 < n) (hs : supU l d + n < 18446744073709551616) (hl : l.length ≤ 60) : mintE l o d n = 0 ∨ mintE l o d n = 5 ∧ l.length = 60 := by
  unfold mintE
  rw [if_neg (by simp [ho, hd]), if_neg (by omega), if_neg (by omega)]
  split
  · rename_i h; exact .inr ⟨rfl, by omega⟩
  · exact .inl rfl
theorem mint_burn {l : List Pu} (hr : RightU l) (hl : l.length ≤ 60) {o d : ByteArray} {n : Nat} (hn : 0 < n) (hm : n < 18446744073709551616) (hs : supU l d < 18446744073709551616) (he : burnE l o d n = 0) :
    (mintE (burnL l o d n) o d n = 0 ∧ mintL (burnL l o d n) o d n = l) ∨ mintE (burnL l o d n) o d n = 5 ∧ (burnL l o d n).length = 60 := by
  have B := burn_ok hr he
  obtain ⟨w1, w2⟩ := burnE_words he
  have hh := B.has
  have hz := amt_le_sup l o d
  have hb := B.sup d
  rw [if_pos rfl] at hb
  have hlen := B.len
  rcases mintE_room (l := burnL l o d n) w1 w2 hn (by omega) (by omega) with h | h
  · refine .inl ⟨h, ?_⟩
    obtain ⟨V, -⟩ := mint_ok B.right (by omega) hm h
    refine right_ext V.right hr fun o' d' => ?_
    rw [V.amt, B.amt]
    split
    · rename_i e; obtain ⟨rfl, rfl⟩ := e; omega
    · omega
  · exact .inr h
theorem burn_mint {l : List Pu} (hr : RightU l) (hl : l.length ≤ 60) {o d : ByteArray} {n : Nat} (hm : n < 18446744073709551616) (he : mintE l o d n = 0) : burnE (mintL l o d n) o d n = 0 ∧ burnL (mintL l o d n) o d n = l := by
  obtain ⟨V, -⟩ := mint_ok hr hl hm he
  obtain ⟨w1, w2⟩ := mintE_words he
  have ha := V.amt o d
  rw [if_pos ⟨rfl, rfl⟩] at ha
  have h0 : burnE (mintL l o d n) o d n = 0 := by
    unfold burnE
    rw [if_neg (by simp [w1, w2]), if_neg (by omega)]
  have B := burn_ok V.right h0
  refine ⟨h0, right_ext B.right hr fun o' d' => ?_⟩
  rw [B.amt, V.amt]
  split <;> omega
theorem move_sup {l : List Pu} (hr : RightU l) (hl : l.length ≤ 60) {a b d : ByteArray} {n : Nat} (hn : 0 < n) (hm : n < 18446744073709551616) (he : moveE l a b d n = 0) : supU l d < 18446744073709551616 := by
  obtain ⟨h1, h2⟩ := moveE_parts he
  have B := burn_ok hr h1
  have hh := B.has
  have hz := amt_le_sup l a d
  have hb := B.sup d
  rw [if_pos rfl] at hb
  have := (mint_ok B.right (by have := B.len; omega) hm h2).2 hn
  omega
theorem move_back {l : List Pu} (hr : RightU l) (hl : l.length ≤ 60) {a b d : ByteArray} {n : Nat} (hn : 0 < n) (hm : n < 18446744073709551616) (he : moveE l a b d n = 0) :
    (moveE (moveL l a b d n) b a d n = 0 ∧ moveL (moveL l a b d n) b a d n = l) ∨ moveE (moveL l a b d n) b a d n = 5 ∧ (moveL l a b d n).length = 60 := by
  have hs := move_sup hr hl hn hm he
  obtain ⟨h1, h2⟩ := moveE_parts he
  obtain ⟨w1, w3⟩ := burnE_words h1
  obtain ⟨w2, -⟩ := mintE_words h2
  have V := move_ok hr hl hm he
  have hh := V.has
  have ha := V.amt b d
  have hamt : n ≤ amtU (moveL l a b d n) b d := by
    rw [if_pos (c := b = b ∧ d = d) ⟨rfl, rfl⟩] at ha
    split at ha
    · rename_i e; obtain ⟨rfl, -⟩ := e; omega
    · omega
  have b0 : burnE (moveL l a b d n) b d n = 0 := by
    unfold burnE
    rw [if_neg (by simp [w2, w3]), if_neg (by omega)]
  have B := burn_ok V.right b0
  have hz := amt_le_sup (moveL l a b d n) b d
  have hb := B.sup d
  rw [if_pos rfl] at hb
  have hv := V.sup d
  have hlen := B.len
  have hl60 := V.len
  have e0 : moveE (moveL l a b d n) b a d n = mintE (burnL (moveL l a b d n) b d n) a d n := by
    unfold moveE
    rw [if_neg (by simp [b0])]
  rcases mintE_room (l := burnL (moveL l a b d n) b d n) w1 w3 hn (by omega) (by omega) with h | ⟨h, h60⟩
  · have h0 : moveE (moveL l a b d n) b a d n = 0 := e0.trans h
    have V' := move_ok V.right V.len hm h0
    refine .inl ⟨h0, right_ext V'.right hr fun o' d' => ?_⟩
    have p1 := V'.amt o' d'
    have p2 := V.amt o' d'
    omega
  · exact .inr ⟨e0.trans h, by omega⟩
/-- what left, and came back -/
theorem leave_back {l : List Pu} (hr : RightU l) (hl : l.length ≤ 60) {ch : Nat} {t : Tr} (hn : 0 < t.amount) (hm : t.amount < 18446744073709551616) (hs : supU l t.denom < 18446744073709551616) (he : leaveE l ch t = 0) :
    RightU (leaveL l ch t) ∧ (leaveL l ch t).length ≤ 60 ∧ ((backE (leaveL l ch t) ch t = 0 ∧ backL (leaveL l ch t) ch t = l) ∨ backE (leaveL l ch t) ch t = 5 ∧ (leaveL l ch t).length = 60) := by
  unfold leaveE at he
  unfold leaveL backE backL
  by_cases hc : cameB t.denom ch = true
  · simp only [if_pos hc] at he ⊢
    have B := burn_ok hr he
    exact ⟨B.right, by have := B.len; omega, mint_burn hr hl hn hm hs he⟩
  · simp only [if_neg hc] at he ⊢
    have V := move_ok hr hl hm he
    exact ⟨V.right, V.len, move_back hr hl hn hm he⟩
theorem came_over (ch : Nat) (d : ByteArray) : cameB (cameS ch ++ d) ch = true := by
  unfold cameB Lib.hasPrefix
  rw [List.isPrefixOf_iff_prefix]
  rw [ByteArray.data_append, Array.toList_append]
  exact List.prefix_append _ _
theorem come_right {l : List Pu} (hr : RightU l) (hl : l.length ≤ 60) {ch other : Nat} {t : Tr} (hm : t.amount < 18446744073709551616) (he : comeE l ch other t = 0) : RightU (comeL l ch other t) ∧ (comeL l ch other t).length ≤ 60 := by
  unfold comeE at he
  unfold comeL
  by_cases hc : cameB t.denom other = true
  · simp only [if_pos hc] at he ⊢
    have V := move_ok hr hl hm he
    exact ⟨V.right, V.len⟩
  · simp only [if_neg hc] at he ⊢
    obtain ⟨V, -⟩ := mint_ok hr hl hm he
    exact ⟨V.right, V.len⟩
/-- what came home, and leaves again -/
theorem home_leave {l : List Pu} (hr : RightU l) (hl : l.length ≤ 60) {ch other : Nat} {t : Tr} (hn : 0 < t.amount) (hm : t.amount < 18446744073709551616) (he : comeE l ch other t = 0) (hc : cameB t.denom other = true) (hd : cameB (cutS t.denom other) ch = false) :
    (leaveE (comeL l ch other t) ch ⟨cutS t.denom other, t.amount, t.reader, t.reader⟩ = 0 ∧ leaveL (comeL l ch other t) ch ⟨cutS t.denom other, t.amount, t.reader, t.reader⟩ = l) ∨ leaveE (comeL l ch other t) ch ⟨cutS t.denom other, t.amount, t.reader, t.reader⟩ = 5 := by
  unfold comeE at he
  unfold comeL leaveE leaveL
  simp only [hc, hd, if_true, Bool.false_eq_true, if_false] at he ⊢
  rcases move_back hr hl hn hm he with h | h
  · exact .inl h
  · exact .inr h.1
/-- what came from abroad, and leaves again -/
theorem abroad_leave {l : List Pu} (hr : RightU l) (hl : l.length ≤ 60) {ch other : Nat} {t : Tr} (hm : t.amount < 18446744073709551616) (he : comeE l ch other t = 0) (hc : cameB t.denom other = false) :
    leaveE (comeL l ch other t) ch ⟨cameS ch ++ t.denom, t.amount, t.reader, t.reader⟩ = 0 ∧ leaveL (comeL l ch other t) ch ⟨cameS ch ++ t.denom, t.amount, t.reader, t.reader⟩ = l := by
  unfold comeE at he
  unfold comeL leaveE leaveL
  simp only [hc, came_over, if_true, Bool.false_eq_true, if_false] at he ⊢
  exact burn_mint hr hl hm he
end Go.Proofs.YtnoaohlajllngaaDoor
