/-
  What package state's Wrong answers: what is wrong with a state.
-/
import Derived.Test.YtbjlfhabnjpdmaaGreatDoorlaStMem
import Derived.Test.YtbjlfhabnjpdmaaGreatDoorlaStByOne
import Derived.Test.YtbjlfhabnjpdmaaGreatDoorlaRegions
import Derived.Deep.RegionHeld3
import Derived.Deep.RegionWith
namespace Go.Proofs.YtbjlfhabnjpdmaaGreatDoor
open Go.RowKit

set_option maxRecDepth 100000 in
set_option maxHeartbeats 4000000 in
theorem tooMany_any (n : ByteArray) (h t : Int) (o1 o2 o3 o4 o5 o6 o7 : Option Addr) (n1 n2 n3 n4 n5 n6 n7 c1 c2 c3 c4 c5 c6 c7 : Nat) (w : World) :
    Calls Tryz.prog 28 #[.agg #[.string n, .int .i64 h, .int .i64 t, .slice o1 n1 c1, .slice o2 n2 c2, .slice o3 n3 c3, .slice o4 n4 c4, .slice o5 n5 c5, .slice o6 n6 c6, .slice o7 n7 c7]] w fun e w' => e = .returned (.bool (decide (4 < n1 ∨ 8 < n2 ∨ 8 < n3 ∨ 50 < n4 ∨ 50 < n5 ∨ 50 < n6 ∨ 60 < n7))) ∧ Below w.heap.size w w' := by
  obtain ⟨w0, hw0⟩ : ∃ w0, w.alloc (.cells #[.string n, .int .i64 h, .int .i64 t, .slice o1 n1 c1, .slice o2 n2 c2, .slice o3 n3 c3, .slice o4 n4 c4, .slice o5 n5 c5, .slice o6 n6 c6, .slice o7 n7 c7] 28) = w0 := ⟨_, rfl⟩
  have HB0 := hid (show Below w.heap.size w w0 by rw [← hw0]; exact (Below.refl _ _).alloc (Nat.le_refl _) _)
  have hr0 := (show Row w0 w.heap.size 28 [.string n, .int .i64 h, .int .i64 t, .slice o1 n1 c1, .slice o2 n2 c2, .slice o3 n3 c3, .slice o4 n4 c4, .slice o5 n5 c5, .slice o6 n6 c6, .slice o7 n7 c7] by rw [← hw0]; exact Row.new _ _ _)
  have k3 := hr0.cell 3
  have k4 := hr0.cell 4
  have k5 := hr0.cell 5
  have k6 := hr0.cell 6
  have k7 := hr0.cell 7
  have k8 := hr0.cell 8
  have k9 := hr0.cell 9
  clear hr0
  by_cases h1 : 4 < n1
  · have e1 : decide ((4 : Int) < (n1 : Int)) = true := by simp; omega
    go_enter Tryz.func28, Tryz.ntmps28
    go_wp2
    all_goals (go_ret; refine ⟨congrArg (fun b => Ending.returned (.bool b)) ?_, HB0.out⟩; first | (rw [Bool.eq_iff_iff]; simp; omega) | (simp; omega))
  · have e1 : decide ((4 : Int) < (n1 : Int)) = false := by simp; omega
    by_cases h2 : 8 < n2
    · have e2 : decide ((8 : Int) < (n2 : Int)) = true := by simp; omega
      go_enter Tryz.func28, Tryz.ntmps28
      go_wp2
      all_goals (go_ret; refine ⟨congrArg (fun b => Ending.returned (.bool b)) ?_, HB0.out⟩; first | (rw [Bool.eq_iff_iff]; simp; omega) | (simp; omega))
    · have e2 : decide ((8 : Int) < (n2 : Int)) = false := by simp; omega
      by_cases h3 : 8 < n3
      · have e3 : decide ((8 : Int) < (n3 : Int)) = true := by simp; omega
        go_enter Tryz.func28, Tryz.ntmps28
        go_wp2
        all_goals (go_ret; refine ⟨congrArg (fun b => Ending.returned (.bool b)) ?_, HB0.out⟩; first | (rw [Bool.eq_iff_iff]; simp; omega) | (simp; omega))
      · have e3 : decide ((8 : Int) < (n3 : Int)) = false := by simp; omega
        go_enter Tryz.func28, Tryz.ntmps28
        go_wp2
        all_goals (go_ret; refine ⟨congrArg (fun b => Ending.returned (.bool b)) ?_, HB0.out⟩; first | (rw [Bool.eq_iff_iff]; simp; omega) | (simp; omega))
end Go.Proofs.YtbjlfhabnjpdmaaGreatDoor
namespace Go.Proofs.YtbjlfhabnjpdmaaGreatDoor
open Go.RowKit

/-- the calls of Wrong come in their order -/
def OrdW (b : Nat → Bool) : Prop := (b 12 = true → b 11 = true) ∧ (b 15 = true → b 12 = true) ∧ (b 16 = true → b 15 = true) ∧ (b 19 = true → b 16 = true) ∧ (b 20 = true → b 19 = true) ∧ (b 23 = true → b 20 = true) ∧ (b 24 = true → b 23 = true) ∧ (b 25 = true → b 24 = true) ∧ (b 26 = true → b 25 = true)
/-- what holds while Wrong asks all: what was told is so, and who was made and not yet asked is as new -/
structure WJ (w : World) (G : Nat → Value → Prop) (F : Nat → Value → World → Prop) (b : Nat → Bool) (σ : Nat → Value) (W : World) : Prop where
  below : Below w.heap.size w W
  facts : ∀ i, b i = true → G i (σ i)
  ord : OrdW b
  p11 : b 11 = true → b 12 = false → F 11 (σ 11) W
  p15 : b 15 = true → b 16 = false → F 15 (σ 15) W
  p19 : b 19 = true → b 20 = false → F 19 (σ 19) W
  p23 : b 23 = true → b 24 = false → F 23 (σ 23) W
  p25 : b 25 = true → b 26 = false → F 25 (σ 25) W
theorem updF_ne {σ : Nat → Value} {i k : Nat} {v : Value} (h : k ≠ i) : updF σ i v k = σ k := by simp [updF, h]
theorem updF_at {σ : Nat → Value} {i : Nat} {v : Value} : updF σ i v i = v := by simp [updF]
theorem updB_ne {b : Nat → Bool} {i k : Nat} (h : k ≠ i) : updB b i k = b k := by simp [updB, h]
theorem updB_true {b : Nat → Bool} {i k : Nat} (h : b k = true) : updB b i k = true := by
  unfold updB
  split
  · rfl
  · exact h
theorem WJ.told {w : World} {G : Nat → Value → Prop} {F : Nat → Value → World → Prop} {b : Nat → Bool} {σ : Nat → Value} {W : World} {i : Nat} {v : Value} (h : WJ w G F b σ W) (hG : G i v) : ∀ k, updB b i k = true → G k (updF σ i v k) := by
  intro k hk
  by_cases e : k = i
  · subst e; rw [updF_at]; exact hG
  · rw [updF_ne e]; rw [updB_ne e] at hk; exact h.facts k hk
/-- what makes memory, and asks nobody that was made -/
theorem WJ.grow {w : World} {G : Nat → Value → Prop} {F : Nat → Value → World → Prop} {b : Nat → Bool} {σ : Nat → Value} {W W' : World} {i : Nat} {v : Value} (h : WJ w G F b σ W) (hG : G i v) (hb : Below W.heap.size W W') (hF : ∀ k X, F k X W → F k X W')
    (h11 : 11 ≠ i) (h12 : 12 ≠ i) (h15 : 15 ≠ i) (h16 : 16 ≠ i) (h19 : 19 ≠ i) (h20 : 20 ≠ i) (h23 : 23 ≠ i) (h24 : 24 ≠ i) (h25 : 25 ≠ i) (h26 : 26 ≠ i) : WJ w G F (updB b i) (updF σ i v) W' := by
  refine ⟨h.below.trans (hb.mono h.below.size), h.told hG, ?_, ?_, ?_, ?_, ?_, ?_⟩
  · unfold OrdW
    rw [updB_ne h11, updB_ne h12, updB_ne h15, updB_ne h16, updB_ne h19, updB_ne h20, updB_ne h23, updB_ne h24, updB_ne h25, updB_ne h26]
    exact h.ord
  · rw [updB_ne h11, updB_ne h12, updF_ne h11]; exact fun x y => hF _ _ (h.p11 x y)
  · rw [updB_ne h15, updB_ne h16, updF_ne h15]; exact fun x y => hF _ _ (h.p15 x y)
  · rw [updB_ne h19, updB_ne h20, updF_ne h19]; exact fun x y => hF _ _ (h.p19 x y)
  · rw [updB_ne h23, updB_ne h24, updF_ne h23]; exact fun x y => hF _ _ (h.p23 x y)
  · rw [updB_ne h25, updB_ne h26, updF_ne h25]; exact fun x y => hF _ _ (h.p25 x y)
theorem WJ.make11 {w : World} {G : Nat → Value → Prop} {F : Nat → Value → World → Prop} {b : Nat → Bool} {σ : Nat → Value} {W W' : World} {v : Value} (h : WJ w G F b σ W) (hG : G 11 v) (hb : Below W.heap.size W W') (hF : ∀ k X, F k X W → F k X W') (hN : F 11 v W') : WJ w G F (updB b 11) (updF σ 11 v) W' := by
  obtain ⟨o0, o1, o2, o3, o4, o5, o6, o7, o8⟩ := h.ord
  refine ⟨h.below.trans (hb.mono h.below.size), h.told hG, ?_, ?_, ?_, ?_, ?_, ?_⟩
  · refine ⟨?_, ?_, ?_, ?_, ?_, ?_, ?_, ?_, ?_⟩
    · rw [updB_ne (by decide : 12 ≠ 11)]; exact fun hx => updB_true (o0 hx)
    · rw [updB_ne (by decide : 15 ≠ 11)]; exact fun hx => updB_true (o1 hx)
    · rw [updB_ne (by decide : 16 ≠ 11)]; exact fun hx => updB_true (o2 hx)
    · rw [updB_ne (by decide : 19 ≠ 11)]; exact fun hx => updB_true (o3 hx)
    · rw [updB_ne (by decide : 20 ≠ 11)]; exact fun hx => updB_true (o4 hx)
    · rw [updB_ne (by decide : 23 ≠ 11)]; exact fun hx => updB_true (o5 hx)
    · rw [updB_ne (by decide : 24 ≠ 11)]; exact fun hx => updB_true (o6 hx)
    · rw [updB_ne (by decide : 25 ≠ 11)]; exact fun hx => updB_true (o7 hx)
    · rw [updB_ne (by decide : 26 ≠ 11)]; exact fun hx => updB_true (o8 hx)
  · rw [updF_at]; exact fun _ _ => hN
  · rw [updB_ne (by decide), updB_ne (by decide), updF_ne (by decide)]; exact fun x y => hF _ _ (h.p15 x y)
  · rw [updB_ne (by decide), updB_ne (by decide), updF_ne (by decide)]; exact fun x y => hF _ _ (h.p19 x y)
  · rw [updB_ne (by decide), updB_ne (by decide), updF_ne (by decide)]; exact fun x y => hF _ _ (h.p23 x y)
  · rw [updB_ne (by decide), updB_ne (by decide), updF_ne (by decide)]; exact fun x y => hF _ _ (h.p25 x y)
theorem WJ.use12 {w : World} {G : Nat → Value → Prop} {F : Nat → Value → World → Prop} {b : Nat → Bool} {σ : Nat → Value} {W W' : World} {v : Value} (h : WJ w G F b σ W) (hi : b 11 = true) (hj : b 12 = false) (hG : G 12 v) (hb : Below w.heap.size W W') : WJ w G F (updB b 12) (updF σ 12 v) W' := by
  obtain ⟨o0, o1, o2, o3, o4, o5, o6, o7, o8⟩ := h.ord
  refine ⟨h.below.trans hb, h.told hG, ?_, ?_, ?_, ?_, ?_, ?_⟩
  · refine ⟨?_, ?_, ?_, ?_, ?_, ?_, ?_, ?_, ?_⟩
    · exact fun _ => updB_true hi
    · rw [updB_ne (by decide : 15 ≠ 12)]; exact fun hx => updB_true (o1 hx)
    · rw [updB_ne (by decide : 16 ≠ 12)]; exact fun hx => updB_true (o2 hx)
    · rw [updB_ne (by decide : 19 ≠ 12)]; exact fun hx => updB_true (o3 hx)
    · rw [updB_ne (by decide : 20 ≠ 12)]; exact fun hx => updB_true (o4 hx)
    · rw [updB_ne (by decide : 23 ≠ 12)]; exact fun hx => updB_true (o5 hx)
    · rw [updB_ne (by decide : 24 ≠ 12)]; exact fun hx => updB_true (o6 hx)
    · rw [updB_ne (by decide : 25 ≠ 12)]; exact fun hx => updB_true (o7 hx)
    · rw [updB_ne (by decide : 26 ≠ 12)]; exact fun hx => updB_true (o8 hx)
  · intro _ y; simp [updB] at y
  · rw [updB_ne (by decide), updB_ne (by decide)]; exact fun x _ => absurd (o1 x) (by simp [hj])
  · rw [updB_ne (by decide), updB_ne (by decide)]; exact fun x _ => absurd (o1 (o2 (o3 x))) (by simp [hj])
  · rw [updB_ne (by decide), updB_ne (by decide)]; exact fun x _ => absurd (o1 (o2 (o3 (o4 (o5 x))))) (by simp [hj])
  · rw [updB_ne (by decide), updB_ne (by decide)]; exact fun x _ => absurd (o1 (o2 (o3 (o4 (o5 (o6 (o7 x))))))) (by simp [hj])
theorem WJ.make15 {w : World} {G : Nat → Value → Prop} {F : Nat → Value → World → Prop} {b : Nat → Bool} {σ : Nat → Value} {W W' : World} {v : Value} (h : WJ w G F b σ W) (hp : b 12 = true) (hG : G 15 v) (hb : Below W.heap.size W W') (hF : ∀ k X, F k X W → F k X W') (hN : F 15 v W') : WJ w G F (updB b 15) (updF σ 15 v) W' := by
  obtain ⟨o0, o1, o2, o3, o4, o5, o6, o7, o8⟩ := h.ord
  refine ⟨h.below.trans (hb.mono h.below.size), h.told hG, ?_, ?_, ?_, ?_, ?_, ?_⟩
  · refine ⟨?_, ?_, ?_, ?_, ?_, ?_, ?_, ?_, ?_⟩
    · rw [updB_ne (by decide : 12 ≠ 15)]; exact fun hx => updB_true (o0 hx)
    · exact fun _ => updB_true hp
    · rw [updB_ne (by decide : 16 ≠ 15)]; exact fun hx => updB_true (o2 hx)
    · rw [updB_ne (by decide : 19 ≠ 15)]; exact fun hx => updB_true (o3 hx)
    · rw [updB_ne (by decide : 20 ≠ 15)]; exact fun hx => updB_true (o4 hx)
    · rw [updB_ne (by decide : 23 ≠ 15)]; exact fun hx => updB_true (o5 hx)
    · rw [updB_ne (by decide : 24 ≠ 15)]; exact fun hx => updB_true (o6 hx)
    · rw [updB_ne (by decide : 25 ≠ 15)]; exact fun hx => updB_true (o7 hx)
    · rw [updB_ne (by decide : 26 ≠ 15)]; exact fun hx => updB_true (o8 hx)
  · rw [updB_ne (by decide), updB_ne (by decide), updF_ne (by decide)]; exact fun x y => hF _ _ (h.p11 x y)
  · rw [updF_at]; exact fun _ _ => hN
  · rw [updB_ne (by decide), updB_ne (by decide), updF_ne (by decide)]; exact fun x y => hF _ _ (h.p19 x y)
  · rw [updB_ne (by decide), updB_ne (by decide), updF_ne (by decide)]; exact fun x y => hF _ _ (h.p23 x y)
  · rw [updB_ne (by decide), updB_ne (by decide), updF_ne (by decide)]; exact fun x y => hF _ _ (h.p25 x y)
theorem WJ.use16 {w : World} {G : Nat → Value → Prop} {F : Nat → Value → World → Prop} {b : Nat → Bool} {σ : Nat → Value} {W W' : World} {v : Value} (h : WJ w G F b σ W) (hi : b 15 = true) (hj : b 16 = false) (hG : G 16 v) (hb : Below w.heap.size W W') : WJ w G F (updB b 16) (updF σ 16 v) W' := by
  obtain ⟨o0, o1, o2, o3, o4, o5, o6, o7, o8⟩ := h.ord
  refine ⟨h.below.trans hb, h.told hG, ?_, ?_, ?_, ?_, ?_, ?_⟩
  · refine ⟨?_, ?_, ?_, ?_, ?_, ?_, ?_, ?_, ?_⟩
    · rw [updB_ne (by decide : 12 ≠ 16)]; exact fun hx => updB_true (o0 hx)
    · rw [updB_ne (by decide : 15 ≠ 16)]; exact fun hx => updB_true (o1 hx)
    · exact fun _ => updB_true hi
    · rw [updB_ne (by decide : 19 ≠ 16)]; exact fun hx => updB_true (o3 hx)
    · rw [updB_ne (by decide : 20 ≠ 16)]; exact fun hx => updB_true (o4 hx)
    · rw [updB_ne (by decide : 23 ≠ 16)]; exact fun hx => updB_true (o5 hx)
    · rw [updB_ne (by decide : 24 ≠ 16)]; exact fun hx => updB_true (o6 hx)
    · rw [updB_ne (by decide : 25 ≠ 16)]; exact fun hx => updB_true (o7 hx)
    · rw [updB_ne (by decide : 26 ≠ 16)]; exact fun hx => updB_true (o8 hx)
  · rw [updB_ne (by decide), updB_ne (by decide)]; exact fun _ y => absurd (o1 hi) (by simp [y])
  · intro _ y; simp [updB] at y
  · rw [updB_ne (by decide), updB_ne (by decide)]; exact fun x _ => absurd (o3 x) (by simp [hj])
  · rw [updB_ne (by decide), updB_ne (by decide)]; exact fun x _ => absurd (o3 (o4 (o5 x))) (by simp [hj])
  · rw [updB_ne (by decide), updB_ne (by decide)]; exact fun x _ => absurd (o3 (o4 (o5 (o6 (o7 x))))) (by simp [hj])
theorem WJ.make19 {w : World} {G : Nat → Value → Prop} {F : Nat → Value → World → Prop} {b : Nat → Bool} {σ : Nat → Value} {W W' : World} {v : Value} (h : WJ w G F b σ W) (hp : b 16 = true) (hG : G 19 v) (hb : Below W.heap.size W W') (hF : ∀ k X, F k X W → F k X W') (hN : F 19 v W') : WJ w G F (updB b 19) (updF σ 19 v) W' := by
  obtain ⟨o0, o1, o2, o3, o4, o5, o6, o7, o8⟩ := h.ord
  refine ⟨h.below.trans (hb.mono h.below.size), h.told hG, ?_, ?_, ?_, ?_, ?_, ?_⟩
  · refine ⟨?_, ?_, ?_, ?_, ?_, ?_, ?_, ?_, ?_⟩
    · rw [updB_ne (by decide : 12 ≠ 19)]; exact fun hx => updB_true (o0 hx)
    · rw [updB_ne (by decide : 15 ≠ 19)]; exact fun hx => updB_true (o1 hx)
    · rw [updB_ne (by decide : 16 ≠ 19)]; exact fun hx => updB_true (o2 hx)
    · exact fun _ => updB_true hp
    · rw [updB_ne (by decide : 20 ≠ 19)]; exact fun hx => updB_true (o4 hx)
    · rw [updB_ne (by decide : 23 ≠ 19)]; exact fun hx => updB_true (o5 hx)
    · rw [updB_ne (by decide : 24 ≠ 19)]; exact fun hx => updB_true (o6 hx)
    · rw [updB_ne (by decide : 25 ≠ 19)]; exact fun hx => updB_true (o7 hx)
    · rw [updB_ne (by decide : 26 ≠ 19)]; exact fun hx => updB_true (o8 hx)
  · rw [updB_ne (by decide), updB_ne (by decide), updF_ne (by decide)]; exact fun x y => hF _ _ (h.p11 x y)
  · rw [updB_ne (by decide), updB_ne (by decide), updF_ne (by decide)]; exact fun x y => hF _ _ (h.p15 x y)
  · rw [updF_at]; exact fun _ _ => hN
  · rw [updB_ne (by decide), updB_ne (by decide), updF_ne (by decide)]; exact fun x y => hF _ _ (h.p23 x y)
  · rw [updB_ne (by decide), updB_ne (by decide), updF_ne (by decide)]; exact fun x y => hF _ _ (h.p25 x y)
theorem WJ.use20 {w : World} {G : Nat → Value → Prop} {F : Nat → Value → World → Prop} {b : Nat → Bool} {σ : Nat → Value} {W W' : World} {v : Value} (h : WJ w G F b σ W) (hi : b 19 = true) (hj : b 20 = false) (hG : G 20 v) (hb : Below w.heap.size W W') : WJ w G F (updB b 20) (updF σ 20 v) W' := by
  obtain ⟨o0, o1, o2, o3, o4, o5, o6, o7, o8⟩ := h.ord
  refine ⟨h.below.trans hb, h.told hG, ?_, ?_, ?_, ?_, ?_, ?_⟩
  · refine ⟨?_, ?_, ?_, ?_, ?_, ?_, ?_, ?_, ?_⟩
    · rw [updB_ne (by decide : 12 ≠ 20)]; exact fun hx => updB_true (o0 hx)
    · rw [updB_ne (by decide : 15 ≠ 20)]; exact fun hx => updB_true (o1 hx)
    · rw [updB_ne (by decide : 16 ≠ 20)]; exact fun hx => updB_true (o2 hx)
    · rw [updB_ne (by decide : 19 ≠ 20)]; exact fun hx => updB_true (o3 hx)
    · exact fun _ => updB_true hi
    · rw [updB_ne (by decide : 23 ≠ 20)]; exact fun hx => updB_true (o5 hx)
    · rw [updB_ne (by decide : 24 ≠ 20)]; exact fun hx => updB_true (o6 hx)
    · rw [updB_ne (by decide : 25 ≠ 20)]; exact fun hx => updB_true (o7 hx)
    · rw [updB_ne (by decide : 26 ≠ 20)]; exact fun hx => updB_true (o8 hx)
  · rw [updB_ne (by decide), updB_ne (by decide)]; exact fun _ y => absurd (o1 (o2 (o3 hi))) (by simp [y])
  · rw [updB_ne (by decide), updB_ne (by decide)]; exact fun _ y => absurd (o3 hi) (by simp [y])
  · intro _ y; simp [updB] at y
  · rw [updB_ne (by decide), updB_ne (by decide)]; exact fun x _ => absurd (o5 x) (by simp [hj])
  · rw [updB_ne (by decide), updB_ne (by decide)]; exact fun x _ => absurd (o5 (o6 (o7 x))) (by simp [hj])
theorem WJ.make23 {w : World} {G : Nat → Value → Prop} {F : Nat → Value → World → Prop} {b : Nat → Bool} {σ : Nat → Value} {W W' : World} {v : Value} (h : WJ w G F b σ W) (hp : b 20 = true) (hG : G 23 v) (hb : Below W.heap.size W W') (hF : ∀ k X, F k X W → F k X W') (hN : F 23 v W') : WJ w G F (updB b 23) (updF σ 23 v) W' := by
  obtain ⟨o0, o1, o2, o3, o4, o5, o6, o7, o8⟩ := h.ord
  refine ⟨h.below.trans (hb.mono h.below.size), h.told hG, ?_, ?_, ?_, ?_, ?_, ?_⟩
  · refine ⟨?_, ?_, ?_, ?_, ?_, ?_, ?_, ?_, ?_⟩
    · rw [updB_ne (by decide : 12 ≠ 23)]; exact fun hx => updB_true (o0 hx)
    · rw [updB_ne (by decide : 15 ≠ 23)]; exact fun hx => updB_true (o1 hx)
    · rw [updB_ne (by decide : 16 ≠ 23)]; exact fun hx => updB_true (o2 hx)
    · rw [updB_ne (by decide : 19 ≠ 23)]; exact fun hx => updB_true (o3 hx)
    · rw [updB_ne (by decide : 20 ≠ 23)]; exact fun hx => updB_true (o4 hx)
    · exact fun _ => updB_true hp
    · rw [updB_ne (by decide : 24 ≠ 23)]; exact fun hx => updB_true (o6 hx)
    · rw [updB_ne (by decide : 25 ≠ 23)]; exact fun hx => updB_true (o7 hx)
    · rw [updB_ne (by decide : 26 ≠ 23)]; exact fun hx => updB_true (o8 hx)
  · rw [updB_ne (by decide), updB_ne (by decide), updF_ne (by decide)]; exact fun x y => hF _ _ (h.p11 x y)
  · rw [updB_ne (by decide), updB_ne (by decide), updF_ne (by decide)]; exact fun x y => hF _ _ (h.p15 x y)
  · rw [updB_ne (by decide), updB_ne (by decide), updF_ne (by decide)]; exact fun x y => hF _ _ (h.p19 x y)
  · rw [updF_at]; exact fun _ _ => hN
  · rw [updB_ne (by decide), updB_ne (by decide), updF_ne (by decide)]; exact fun x y => hF _ _ (h.p25 x y)
theorem WJ.use24 {w : World} {G : Nat → Value → Prop} {F : Nat → Value → World → Prop} {b : Nat → Bool} {σ : Nat → Value} {W W' : World} {v : Value} (h : WJ w G F b σ W) (hi : b 23 = true) (hj : b 24 = false) (hG : G 24 v) (hb : Below w.heap.size W W') : WJ w G F (updB b 24) (updF σ 24 v) W' := by
  obtain ⟨o0, o1, o2, o3, o4, o5, o6, o7, o8⟩ := h.ord
  refine ⟨h.below.trans hb, h.told hG, ?_, ?_, ?_, ?_, ?_, ?_⟩
  · refine ⟨?_, ?_, ?_, ?_, ?_, ?_, ?_, ?_, ?_⟩
    · rw [updB_ne (by decide : 12 ≠ 24)]; exact fun hx => updB_true (o0 hx)
    · rw [updB_ne (by decide : 15 ≠ 24)]; exact fun hx => updB_true (o1 hx)
    · rw [updB_ne (by decide : 16 ≠ 24)]; exact fun hx => updB_true (o2 hx)
    · rw [updB_ne (by decide : 19 ≠ 24)]; exact fun hx => updB_true (o3 hx)
    · rw [updB_ne (by decide : 20 ≠ 24)]; exact fun hx => updB_true (o4 hx)
    · rw [updB_ne (by decide : 23 ≠ 24)]; exact fun hx => updB_true (o5 hx)
    · exact fun _ => updB_true hi
    · rw [updB_ne (by decide : 25 ≠ 24)]; exact fun hx => updB_true (o7 hx)
    · rw [updB_ne (by decide : 26 ≠ 24)]; exact fun hx => updB_true (o8 hx)
  · rw [updB_ne (by decide), updB_ne (by decide)]; exact fun _ y => absurd (o1 (o2 (o3 (o4 (o5 hi))))) (by simp [y])
  · rw [updB_ne (by decide), updB_ne (by decide)]; exact fun _ y => absurd (o3 (o4 (o5 hi))) (by simp [y])
  · rw [updB_ne (by decide), updB_ne (by decide)]; exact fun _ y => absurd (o5 hi) (by simp [y])
  · intro _ y; simp [updB] at y
  · rw [updB_ne (by decide), updB_ne (by decide)]; exact fun x _ => absurd (o7 x) (by simp [hj])
theorem WJ.make25 {w : World} {G : Nat → Value → Prop} {F : Nat → Value → World → Prop} {b : Nat → Bool} {σ : Nat → Value} {W W' : World} {v : Value} (h : WJ w G F b σ W) (hp : b 24 = true) (hG : G 25 v) (hb : Below W.heap.size W W') (hF : ∀ k X, F k X W → F k X W') (hN : F 25 v W') : WJ w G F (updB b 25) (updF σ 25 v) W' := by
  obtain ⟨o0, o1, o2, o3, o4, o5, o6, o7, o8⟩ := h.ord
  refine ⟨h.below.trans (hb.mono h.below.size), h.told hG, ?_, ?_, ?_, ?_, ?_, ?_⟩
  · refine ⟨?_, ?_, ?_, ?_, ?_, ?_, ?_, ?_, ?_⟩
    · rw [updB_ne (by decide : 12 ≠ 25)]; exact fun hx => updB_true (o0 hx)
    · rw [updB_ne (by decide : 15 ≠ 25)]; exact fun hx => updB_true (o1 hx)
    · rw [updB_ne (by decide : 16 ≠ 25)]; exact fun hx => updB_true (o2 hx)
    · rw [updB_ne (by decide : 19 ≠ 25)]; exact fun hx => updB_true (o3 hx)
    · rw [updB_ne (by decide : 20 ≠ 25)]; exact fun hx => updB_true (o4 hx)
    · rw [updB_ne (by decide : 23 ≠ 25)]; exact fun hx => updB_true (o5 hx)
    · rw [updB_ne (by decide : 24 ≠ 25)]; exact fun hx => updB_true (o6 hx)
    · exact fun _ => updB_true hp
    · rw [updB_ne (by decide : 26 ≠ 25)]; exact fun hx => updB_true (o8 hx)
  · rw [updB_ne (by decide), updB_ne (by decide), updF_ne (by decide)]; exact fun x y => hF _ _ (h.p11 x y)
  · rw [updB_ne (by decide), updB_ne (by decide), updF_ne (by decide)]; exact fun x y => hF _ _ (h.p15 x y)
  · rw [updB_ne (by decide), updB_ne (by decide), updF_ne (by decide)]; exact fun x y => hF _ _ (h.p19 x y)
  · rw [updB_ne (by decide), updB_ne (by decide), updF_ne (by decide)]; exact fun x y => hF _ _ (h.p23 x y)
  · rw [updF_at]; exact fun _ _ => hN
theorem WJ.use26 {w : World} {G : Nat → Value → Prop} {F : Nat → Value → World → Prop} {b : Nat → Bool} {σ : Nat → Value} {W W' : World} {v : Value} (h : WJ w G F b σ W) (hi : b 25 = true) (_hj : b 26 = false) (hG : G 26 v) (hb : Below w.heap.size W W') : WJ w G F (updB b 26) (updF σ 26 v) W' := by
  obtain ⟨o0, o1, o2, o3, o4, o5, o6, o7, o8⟩ := h.ord
  refine ⟨h.below.trans hb, h.told hG, ?_, ?_, ?_, ?_, ?_, ?_⟩
  · refine ⟨?_, ?_, ?_, ?_, ?_, ?_, ?_, ?_, ?_⟩
    · rw [updB_ne (by decide : 12 ≠ 26)]; exact fun hx => updB_true (o0 hx)
    · rw [updB_ne (by decide : 15 ≠ 26)]; exact fun hx => updB_true (o1 hx)
    · rw [updB_ne (by decide : 16 ≠ 26)]; exact fun hx => updB_true (o2 hx)
    · rw [updB_ne (by decide : 19 ≠ 26)]; exact fun hx => updB_true (o3 hx)
    · rw [updB_ne (by decide : 20 ≠ 26)]; exact fun hx => updB_true (o4 hx)
    · rw [updB_ne (by decide : 23 ≠ 26)]; exact fun hx => updB_true (o5 hx)
    · rw [updB_ne (by decide : 24 ≠ 26)]; exact fun hx => updB_true (o6 hx)
    · rw [updB_ne (by decide : 25 ≠ 26)]; exact fun hx => updB_true (o7 hx)
    · exact fun _ => updB_true hi
  · rw [updB_ne (by decide), updB_ne (by decide)]; exact fun _ y => absurd (o1 (o2 (o3 (o4 (o5 (o6 (o7 hi))))))) (by simp [y])
  · rw [updB_ne (by decide), updB_ne (by decide)]; exact fun _ y => absurd (o3 (o4 (o5 (o6 (o7 hi))))) (by simp [y])
  · rw [updB_ne (by decide), updB_ne (by decide)]; exact fun _ y => absurd (o5 (o6 (o7 hi))) (by simp [y])
  · rw [updB_ne (by decide), updB_ne (by decide)]; exact fun _ y => absurd (o7 hi) (by simp [y])
  · intro _ y; simp [updB] at y
set_option maxRecDepth 100000 in
set_option maxHeartbeats 8000000 in
theorem wrongRegion {y0 y3 y4 y5 y6 y7 y8 y9 y10 y11 y12 y13 y14 y15 y16 y17 y18 y19 y20 y21 z2 z22 z23 z24 z25 z26 z27 z28 z29 z30 z31 z32 z33 z34 z35 z36 z37 z38 z39 z40 z41 z42 z43 z44 z45 z46 z47 z48 : Value} {gs N : Nat} (s : St) (o1 o2 o3 o4 o5 o6 o7 : Option Addr) (c1 c2 c3 c4 c5 c6 c7 : Nat) {w : World} (hN : N ≤ w.heap.size) (hr : Hid (Row w gs 28 [.string s.name, .int .i64 s.height, .int .i64 s.time, .slice o1 s.clients.length c1, .slice o2 s.conns.length c2, .slice o3 s.chans.length c3, .slice o4 s.sent.length c4, .slice o5 s.got.length c5, .slice o6 s.acks.length c6, .slice o7 s.purses.length c7])) (hm : Hid (StMem w N s (.slice o1 s.clients.length c1) (.slice o2 s.conns.length c2) (.slice o3 s.chans.length c3) (.slice o4 s.sent.length c4) (.slice o5 s.got.length c5) (.slice o6 s.acks.length c6) (.slice o7 s.purses.length c7))) (hf : Hid s.fits) (Q : Exit → Act → World → Prop)
    (hQ : Hid (∀ (σ : Nat → Value) (w' : World), Below w.heap.size w w' → σ 27 = .int .i64 (deepS s) → Q .normal ⟨#[y0, .pointer (some ⟨gs, 0, none⟩), σ 27, y3, y4, y5, y6, y7, y8, y9, y10, y11, y12, y13, y14, y15, y16, y17, y18, y19, y20, y21, σ 0, σ 1, σ 2, σ 3, σ 4, σ 5, σ 6, σ 7, σ 8, σ 9, σ 10, σ 11, σ 12, σ 13, σ 14, σ 15, σ 16, σ 17, σ 18, σ 19, σ 20, σ 21, σ 22, σ 23, σ 24, σ 25, σ 26], []⟩ w')) :
    Code.wp Tryz.prog (.region 7 ((Tryz.f15.body.bind (regOf 7)).getD #[]) true) Q ⟨#[y0, .pointer (some ⟨gs, 0, none⟩), z2, y3, y4, y5, y6, y7, y8, y9, y10, y11, y12, y13, y14, y15, y16, y17, y18, y19, y20, y21, z22, z23, z24, z25, z26, z27, z28, z29, z30, z31, z32, z33, z34, z35, z36, z37, z38, z39, z40, z41, z42, z43, z44, z45, z46, z47, z48], []⟩ w := by
  conv => arg 2; arg 2; whnf
  conv => arg 4; dsimp only
  have hst : ∀ (W W' : World), Below W.heap.size W W' → ∀ (k : Nat) (X : Value), (fun i X W => match i with
          | 11 => ∃ g, X = cloMk g ∧ w.heap.size ≤ g ∧ RiseMk W g none
          | 15 => ∃ g, X = cloMk g ∧ w.heap.size ≤ g ∧ RiseMk W g none
          | 19 => ∃ g, X = cloMk g ∧ w.heap.size ≤ g ∧ RiseMk W g none
          | 23 => ∃ g, X = cloPu g ∧ w.heap.size ≤ g ∧ RisePu W g none
          | 25 => ∃ k, X = .slice (some ⟨k, 0, none⟩) 7 7 ∧ Row W k 54 [.int .i64 (firstW wrongCl s.clients), .int .i64 (firstW wrongCn s.conns), .int .i64 (firstW wrongCh s.chans), .int .i64 (marksN s.sent), .int .i64 (marksN s.got), .int .i64 (marksN s.acks), .int .i64 (pursesN s.purses)]
          | _ => True) k X W → (fun i X W => match i with
          | 11 => ∃ g, X = cloMk g ∧ w.heap.size ≤ g ∧ RiseMk W g none
          | 15 => ∃ g, X = cloMk g ∧ w.heap.size ≤ g ∧ RiseMk W g none
          | 19 => ∃ g, X = cloMk g ∧ w.heap.size ≤ g ∧ RiseMk W g none
          | 23 => ∃ g, X = cloPu g ∧ w.heap.size ≤ g ∧ RisePu W g none
          | 25 => ∃ k, X = .slice (some ⟨k, 0, none⟩) 7 7 ∧ Row W k 54 [.int .i64 (firstW wrongCl s.clients), .int .i64 (firstW wrongCn s.conns), .int .i64 (firstW wrongCh s.chans), .int .i64 (marksN s.sent), .int .i64 (marksN s.got), .int .i64 (marksN s.acks), .int .i64 (pursesN s.purses)]
          | _ => True) k X W' := by
    intro W W' HB k X H
    by_cases e11 : k = 11
    · subst e11; obtain ⟨g, e, h1, h2⟩ := H; exact ⟨g, e, h1, h2.below HB⟩
    by_cases e15 : k = 15
    · subst e15; obtain ⟨g, e, h1, h2⟩ := H; exact ⟨g, e, h1, h2.below HB⟩
    by_cases e19 : k = 19
    · subst e19; obtain ⟨g, e, h1, h2⟩ := H; exact ⟨g, e, h1, h2.below HB⟩
    by_cases e23 : k = 23
    · subst e23; obtain ⟨g, e, h1, h2⟩ := H; exact ⟨g, e, h1, h2.below HB⟩
    by_cases e25 : k = 25
    · subst e25; obtain ⟨g, e, h1⟩ := H; exact ⟨g, e, h1.below HB h1.lt⟩
    split <;> first | trivial | contradiction
  have HST := hid hst
  clear hst
  refine region_flags (by kernel_rfl) (fun σ => #[y0, .pointer (some ⟨gs, 0, none⟩), σ 27, y3, y4, y5, y6, y7, y8, y9, y10, y11, y12, y13, y14, y15, y16, y17, y18, y19, y20, y21, σ 0, σ 1, σ 2, σ 3, σ 4, σ 5, σ 6, σ 7, σ 8, σ 9, σ 10, σ 11, σ 12, σ 13, σ 14, σ 15, σ 16, σ 17, σ 18, σ 19, σ 20, σ 21, σ 22, σ 23, σ 24, σ 25, σ 26]) (fun i => ([z22, z23, z24, z25, z26, z27, z28, z29, z30, z31, z32, z33, z34, z35, z36, z37, z38, z39, z40, z41, z42, z43, z44, z45, z46, z47, z48, z2] : List Value).getD i undef) rfl (WJ w (fun i X => match i with
    | 0 => X = .pointer (some ⟨gs, 3, none⟩)
    | 1 => X = .slice o1 s.clients.length c1
    | 2 => X = .int .i64 (firstW wrongCl s.clients)
    | 3 => X = .pointer (some ⟨gs, 4, none⟩)
    | 4 => X = .slice o2 s.conns.length c2
    | 5 => X = .int .i64 (firstW wrongCn s.conns)
    | 6 => X = .pointer (some ⟨gs, 5, none⟩)
    | 7 => X = .slice o3 s.chans.length c3
    | 8 => X = .int .i64 (firstW wrongCh s.chans)
    | 9 => X = .pointer (some ⟨gs, 6, none⟩)
    | 10 => X = .slice o4 s.sent.length c4
    | 12 => X = .int .i64 (marksN s.sent)
    | 13 => X = .pointer (some ⟨gs, 7, none⟩)
    | 14 => X = .slice o5 s.got.length c5
    | 16 => X = .int .i64 (marksN s.got)
    | 17 => X = .pointer (some ⟨gs, 8, none⟩)
    | 18 => X = .slice o6 s.acks.length c6
    | 20 => X = .int .i64 (marksN s.acks)
    | 21 => X = .pointer (some ⟨gs, 9, none⟩)
    | 22 => X = .slice o7 s.purses.length c7
    | 24 => X = .int .i64 (pursesN s.purses)
    | 26 => X = .int .i64 (deepS s)
    | 27 => X = .int .i64 (deepS s)
    | _ => True) (fun i X W => match i with
    | 11 => ∃ g, X = cloMk g ∧ w.heap.size ≤ g ∧ RiseMk W g none
    | 15 => ∃ g, X = cloMk g ∧ w.heap.size ≤ g ∧ RiseMk W g none
    | 19 => ∃ g, X = cloMk g ∧ w.heap.size ≤ g ∧ RiseMk W g none
    | 23 => ∃ g, X = cloPu g ∧ w.heap.size ≤ g ∧ RisePu W g none
    | 25 => ∃ k, X = .slice (some ⟨k, 0, none⟩) 7 7 ∧ Row W k 54 [.int .i64 (firstW wrongCl s.clients), .int .i64 (firstW wrongCn s.conns), .int .i64 (firstW wrongCh s.chans), .int .i64 (marksN s.sent), .int .i64 (marksN s.got), .int .i64 (marksN s.acks), .int .i64 (pursesN s.purses)]
    | _ => True)) ?_ (by kernel_rfl) ?_ ?_
  · exact ⟨(Below.refl _ _).drew, fun i h => (by cases h), (by unfold OrdW; simp), fun h => (by cases h), fun h => (by cases h), fun h => (by cases h), fun h => (by cases h), fun h => (by cases h)⟩
  · refine ⟨?_, ?_, ?_, ?_, ?_, ?_, ?_, ?_, ?_, ?_, ?_, ?_, ?_, ?_, ?_, ?_, ?_, ?_, ?_, ?_, ?_, ?_, ?_, ?_, ?_, ?_, ?_, ?_, trivial⟩
    · -- 0: Op.fieldAddr 28 t1 3
      intro b σ W hbi HJ hdep
      have HBW := hid HJ.below
      have HJ := hid HJ
      clear hdep
      refine wpOp_plain rfl rfl ?_
      go_simp
      exact ⟨.pointer (some ⟨gs, 3, none⟩), (by first | rfl | simp [updF, *]), HJ.out.grow rfl (Below.refl _ _) (HST.out _ _ (Below.refl _ _)) (by decide) (by decide) (by decide) (by decide) (by decide) (by decide) (by decide) (by decide) (by decide) (by decide)⟩
    · -- 1: Op.load 22 t22
      intro b σ W hbi HJ hdep
      have ea : σ 0 = .pointer (some ⟨gs, 3, none⟩) := HJ.facts 0 (hdep ⟨0, .data⟩ (by simp) rfl)
      have HBW := hid HJ.below
      have kc := (hr.out.below HBW.out hr.out.lt).cell 3
      simp at kc
      have HJ := hid HJ
      clear hdep
      refine wpOp_plain rfl rfl ?_
      go_simp
      exact ⟨.slice o1 s.clients.length c1, (by first | rfl | simp [updF, *]), HJ.out.grow rfl (Below.refl _ _) (HST.out _ _ (Below.refl _ _)) (by decide) (by decide) (by decide) (by decide) (by decide) (by decide) (by decide) (by decide) (by decide) (by decide)⟩
    · -- 2: Op.call { value (Operand.func 18), args := #[t23, Operand.fu
      intro b σ W hbi HJ hdep
      have ea : σ 1 = .slice o1 s.clients.length c1 := HJ.facts 1 (hdep ⟨1, .data⟩ (by simp) rfl)
      have HBW := hid HJ.below
      have HC := hid (byOneCl s.clients (.slice o1 s.clients.length c1) N W (Nat.le_trans hN HBW.out.size) (hm.out.clients.below ClR.stays (HBW.out.mono hN)) hf.out.2.1.1 hf.out.2.1.2)
      have HJ := hid HJ
      clear hdep
      refine wpOp_plain rfl rfl ?_
      go_simp
      refine HC.out.mono ?_
      rintro e w2 ⟨rfl, hb2⟩
      exact ⟨.int .i64 (firstW wrongCl s.clients), (by first | rfl | simp [updF, *]), HJ.out.grow rfl hb2 (HST.out _ _ hb2) (by decide) (by decide) (by decide) (by decide) (by decide) (by decide) (by decide) (by decide) (by decide) (by decide)⟩
    · -- 3: Op.fieldAddr 28 t1 4
      intro b σ W hbi HJ hdep
      have HBW := hid HJ.below
      have HJ := hid HJ
      clear hdep
      refine wpOp_plain rfl rfl ?_
      go_simp
      exact ⟨.pointer (some ⟨gs, 4, none⟩), (by first | rfl | simp [updF, *]), HJ.out.grow rfl (Below.refl _ _) (HST.out _ _ (Below.refl _ _)) (by decide) (by decide) (by decide) (by decide) (by decide) (by decide) (by decide) (by decide) (by decide) (by decide)⟩
    · -- 4: Op.load 23 t25
      intro b σ W hbi HJ hdep
      have ea : σ 3 = .pointer (some ⟨gs, 4, none⟩) := HJ.facts 3 (hdep ⟨3, .data⟩ (by simp) rfl)
      have HBW := hid HJ.below
      have kc := (hr.out.below HBW.out hr.out.lt).cell 4
      simp at kc
      have HJ := hid HJ
      clear hdep
      refine wpOp_plain rfl rfl ?_
      go_simp
      exact ⟨.slice o2 s.conns.length c2, (by first | rfl | simp [updF, *]), HJ.out.grow rfl (Below.refl _ _) (HST.out _ _ (Below.refl _ _)) (by decide) (by decide) (by decide) (by decide) (by decide) (by decide) (by decide) (by decide) (by decide) (by decide)⟩
    · -- 5: Op.call { value (Operand.func 20), args := #[t26, Operand.fu
      intro b σ W hbi HJ hdep
      have ea : σ 4 = .slice o2 s.conns.length c2 := HJ.facts 4 (hdep ⟨4, .data⟩ (by simp) rfl)
      have HBW := hid HJ.below
      have HC := hid (byOneCn s.conns (.slice o2 s.conns.length c2) N W (Nat.le_trans hN HBW.out.size) (hm.out.conns.below CnR.stays (HBW.out.mono hN)) hf.out.2.2.1)
      have HJ := hid HJ
      clear hdep
      refine wpOp_plain rfl rfl ?_
      go_simp
      refine HC.out.mono ?_
      rintro e w2 ⟨rfl, hb2⟩
      exact ⟨.int .i64 (firstW wrongCn s.conns), (by first | rfl | simp [updF, *]), HJ.out.grow rfl hb2 (HST.out _ _ hb2) (by decide) (by decide) (by decide) (by decide) (by decide) (by decide) (by decide) (by decide) (by decide) (by decide)⟩
    · -- 6: Op.fieldAddr 28 t1 5
      intro b σ W hbi HJ hdep
      have HBW := hid HJ.below
      have HJ := hid HJ
      clear hdep
      refine wpOp_plain rfl rfl ?_
      go_simp
      exact ⟨.pointer (some ⟨gs, 5, none⟩), (by first | rfl | simp [updF, *]), HJ.out.grow rfl (Below.refl _ _) (HST.out _ _ (Below.refl _ _)) (by decide) (by decide) (by decide) (by decide) (by decide) (by decide) (by decide) (by decide) (by decide) (by decide)⟩
    · -- 7: Op.load 24 t28
      intro b σ W hbi HJ hdep
      have ea : σ 6 = .pointer (some ⟨gs, 5, none⟩) := HJ.facts 6 (hdep ⟨6, .data⟩ (by simp) rfl)
      have HBW := hid HJ.below
      have kc := (hr.out.below HBW.out hr.out.lt).cell 5
      simp at kc
      have HJ := hid HJ
      clear hdep
      refine wpOp_plain rfl rfl ?_
      go_simp
      exact ⟨.slice o3 s.chans.length c3, (by first | rfl | simp [updF, *]), HJ.out.grow rfl (Below.refl _ _) (HST.out _ _ (Below.refl _ _)) (by decide) (by decide) (by decide) (by decide) (by decide) (by decide) (by decide) (by decide) (by decide) (by decide)⟩
    · -- 8: Op.call { value (Operand.func 22), args := #[t29, Operand.fu
      intro b σ W hbi HJ hdep
      have ea : σ 7 = .slice o3 s.chans.length c3 := HJ.facts 7 (hdep ⟨7, .data⟩ (by simp) rfl)
      have HBW := hid HJ.below
      have HC := hid (byOneCh s.chans (.slice o3 s.chans.length c3) N W (Nat.le_trans hN HBW.out.size) (hm.out.chans.below ChR.stays (HBW.out.mono hN)) hf.out.2.2.2.1)
      have HJ := hid HJ
      clear hdep
      refine wpOp_plain rfl rfl ?_
      go_simp
      refine HC.out.mono ?_
      rintro e w2 ⟨rfl, hb2⟩
      exact ⟨.int .i64 (firstW wrongCh s.chans), (by first | rfl | simp [updF, *]), HJ.out.grow rfl hb2 (HST.out _ _ hb2) (by decide) (by decide) (by decide) (by decide) (by decide) (by decide) (by decide) (by decide) (by decide) (by decide)⟩
    · -- 9: Op.fieldAddr 28 t1 6
      intro b σ W hbi HJ hdep
      have HBW := hid HJ.below
      have HJ := hid HJ
      clear hdep
      refine wpOp_plain rfl rfl ?_
      go_simp
      exact ⟨.pointer (some ⟨gs, 6, none⟩), (by first | rfl | simp [updF, *]), HJ.out.grow rfl (Below.refl _ _) (HST.out _ _ (Below.refl _ _)) (by decide) (by decide) (by decide) (by decide) (by decide) (by decide) (by decide) (by decide) (by decide) (by decide)⟩
    · -- 10: Op.load 25 t31
      intro b σ W hbi HJ hdep
      have ea : σ 9 = .pointer (some ⟨gs, 6, none⟩) := HJ.facts 9 (hdep ⟨9, .data⟩ (by simp) rfl)
      have HBW := hid HJ.below
      have kc := (hr.out.below HBW.out hr.out.lt).cell 6
      simp at kc
      have HJ := hid HJ
      clear hdep
      refine wpOp_plain rfl rfl ?_
      go_simp
      exact ⟨.slice o4 s.sent.length c4, (by first | rfl | simp [updF, *]), HJ.out.grow rfl (Below.refl _ _) (HST.out _ _ (Below.refl _ _)) (by decide) (by decide) (by decide) (by decide) (by decide) (by decide) (by decide) (by decide) (by decide) (by decide)⟩
    · -- 11: Op.call { value (Operand.func 25), args := #[Operand.func 26
      intro b σ W hbi HJ hdep
      have HC := hid (risingMk W)
      have HBW := hid HJ.below
      have HJ := hid HJ
      clear hdep
      refine wpOp_plain rfl rfl ?_
      go_simp
      refine HC.out.mono ?_
      rintro e w2 ⟨rfl, hb2, hri⟩
      exact ⟨cloMk W.heap.size, (by first | rfl | simp [updF, *]), HJ.out.make11 trivial hb2 (HST.out _ _ hb2) ⟨_, rfl, HBW.out.size, hri⟩⟩
    · -- 12: Op.call { value (Operand.func 24), args := #[t32, t33], argT
      intro b σ W hbi HJ hdep
      have ea : σ 10 = .slice o4 s.sent.length c4 := HJ.facts 10 (hdep ⟨10, .data⟩ (by simp) rfl)
      have eb : b 11 = true := hdep ⟨11, .data⟩ (by simp) rfl
      obtain ⟨g, eg, hg1, hg2⟩ : ∃ g, σ 11 = cloMk g ∧ w.heap.size ≤ g ∧ RiseMk W g none := HJ.p11 eb hbi
      have HBW := hid HJ.below
      have HC := hid (byOneMk s.sent (.slice o4 s.sent.length c4) N g W hg2 (Nat.le_trans hN hg1) (hm.out.sent.below MkR.stays (HBW.out.mono hN)) hf.out.2.2.2.2.1.1)
      clear hg2
      have HJ := hid HJ
      clear hdep
      refine wpOp_plain rfl rfl ?_
      go_simp
      refine HC.out.mono ?_
      rintro e w2 ⟨rfl, hb2⟩
      exact ⟨.int .i64 (marksN s.sent), (by first | rfl | simp [updF, *]), HJ.out.use12 eb hbi rfl (hb2.mono hg1)⟩
    · -- 13: Op.fieldAddr 28 t1 7
      intro b σ W hbi HJ hdep
      have HBW := hid HJ.below
      have HJ := hid HJ
      clear hdep
      refine wpOp_plain rfl rfl ?_
      go_simp
      exact ⟨.pointer (some ⟨gs, 7, none⟩), (by first | rfl | simp [updF, *]), HJ.out.grow rfl (Below.refl _ _) (HST.out _ _ (Below.refl _ _)) (by decide) (by decide) (by decide) (by decide) (by decide) (by decide) (by decide) (by decide) (by decide) (by decide)⟩
    · -- 14: Op.load 25 t35
      intro b σ W hbi HJ hdep
      have ea : σ 13 = .pointer (some ⟨gs, 7, none⟩) := HJ.facts 13 (hdep ⟨13, .data⟩ (by simp) rfl)
      have HBW := hid HJ.below
      have kc := (hr.out.below HBW.out hr.out.lt).cell 7
      simp at kc
      have HJ := hid HJ
      clear hdep
      refine wpOp_plain rfl rfl ?_
      go_simp
      exact ⟨.slice o5 s.got.length c5, (by first | rfl | simp [updF, *]), HJ.out.grow rfl (Below.refl _ _) (HST.out _ _ (Below.refl _ _)) (by decide) (by decide) (by decide) (by decide) (by decide) (by decide) (by decide) (by decide) (by decide) (by decide)⟩
    · -- 15: Op.call { value (Operand.func 25), args := #[Operand.func 26
      intro b σ W hbi HJ hdep
      have HC := hid (risingMk W)
      have ep : b 12 = true := hdep ⟨12, .chain⟩ (by simp) rfl
      have HBW := hid HJ.below
      have HJ := hid HJ
      clear hdep
      refine wpOp_plain rfl rfl ?_
      go_simp
      refine HC.out.mono ?_
      rintro e w2 ⟨rfl, hb2, hri⟩
      exact ⟨cloMk W.heap.size, (by first | rfl | simp [updF, *]), HJ.out.make15 ep trivial hb2 (HST.out _ _ hb2) ⟨_, rfl, HBW.out.size, hri⟩⟩
    · -- 16: Op.call { value (Operand.func 24), args := #[t36, t37], argT
      intro b σ W hbi HJ hdep
      have ea : σ 14 = .slice o5 s.got.length c5 := HJ.facts 14 (hdep ⟨14, .data⟩ (by simp) rfl)
      have eb : b 15 = true := hdep ⟨15, .data⟩ (by simp) rfl
      obtain ⟨g, eg, hg1, hg2⟩ : ∃ g, σ 15 = cloMk g ∧ w.heap.size ≤ g ∧ RiseMk W g none := HJ.p15 eb hbi
      have HBW := hid HJ.below
      have HC := hid (byOneMk s.got (.slice o5 s.got.length c5) N g W hg2 (Nat.le_trans hN hg1) (hm.out.got.below MkR.stays (HBW.out.mono hN)) hf.out.2.2.2.2.2.1.1)
      clear hg2
      have HJ := hid HJ
      clear hdep
      refine wpOp_plain rfl rfl ?_
      go_simp
      refine HC.out.mono ?_
      rintro e w2 ⟨rfl, hb2⟩
      exact ⟨.int .i64 (marksN s.got), (by first | rfl | simp [updF, *]), HJ.out.use16 eb hbi rfl (hb2.mono hg1)⟩
    · -- 17: Op.fieldAddr 28 t1 8
      intro b σ W hbi HJ hdep
      have HBW := hid HJ.below
      have HJ := hid HJ
      clear hdep
      refine wpOp_plain rfl rfl ?_
      go_simp
      exact ⟨.pointer (some ⟨gs, 8, none⟩), (by first | rfl | simp [updF, *]), HJ.out.grow rfl (Below.refl _ _) (HST.out _ _ (Below.refl _ _)) (by decide) (by decide) (by decide) (by decide) (by decide) (by decide) (by decide) (by decide) (by decide) (by decide)⟩
    · -- 18: Op.load 25 t39
      intro b σ W hbi HJ hdep
      have ea : σ 17 = .pointer (some ⟨gs, 8, none⟩) := HJ.facts 17 (hdep ⟨17, .data⟩ (by simp) rfl)
      have HBW := hid HJ.below
      have kc := (hr.out.below HBW.out hr.out.lt).cell 8
      simp at kc
      have HJ := hid HJ
      clear hdep
      refine wpOp_plain rfl rfl ?_
      go_simp
      exact ⟨.slice o6 s.acks.length c6, (by first | rfl | simp [updF, *]), HJ.out.grow rfl (Below.refl _ _) (HST.out _ _ (Below.refl _ _)) (by decide) (by decide) (by decide) (by decide) (by decide) (by decide) (by decide) (by decide) (by decide) (by decide)⟩
    · -- 19: Op.call { value (Operand.func 25), args := #[Operand.func 26
      intro b σ W hbi HJ hdep
      have HC := hid (risingMk W)
      have ep : b 16 = true := hdep ⟨16, .chain⟩ (by simp) rfl
      have HBW := hid HJ.below
      have HJ := hid HJ
      clear hdep
      refine wpOp_plain rfl rfl ?_
      go_simp
      refine HC.out.mono ?_
      rintro e w2 ⟨rfl, hb2, hri⟩
      exact ⟨cloMk W.heap.size, (by first | rfl | simp [updF, *]), HJ.out.make19 ep trivial hb2 (HST.out _ _ hb2) ⟨_, rfl, HBW.out.size, hri⟩⟩
    · -- 20: Op.call { value (Operand.func 24), args := #[t40, t41], argT
      intro b σ W hbi HJ hdep
      have ea : σ 18 = .slice o6 s.acks.length c6 := HJ.facts 18 (hdep ⟨18, .data⟩ (by simp) rfl)
      have eb : b 19 = true := hdep ⟨19, .data⟩ (by simp) rfl
      obtain ⟨g, eg, hg1, hg2⟩ : ∃ g, σ 19 = cloMk g ∧ w.heap.size ≤ g ∧ RiseMk W g none := HJ.p19 eb hbi
      have HBW := hid HJ.below
      have HC := hid (byOneMk s.acks (.slice o6 s.acks.length c6) N g W hg2 (Nat.le_trans hN hg1) (hm.out.acks.below MkR.stays (HBW.out.mono hN)) hf.out.2.2.2.2.2.2.1.1)
      clear hg2
      have HJ := hid HJ
      clear hdep
      refine wpOp_plain rfl rfl ?_
      go_simp
      refine HC.out.mono ?_
      rintro e w2 ⟨rfl, hb2⟩
      exact ⟨.int .i64 (marksN s.acks), (by first | rfl | simp [updF, *]), HJ.out.use20 eb hbi rfl (hb2.mono hg1)⟩
    · -- 21: Op.fieldAddr 28 t1 9
      intro b σ W hbi HJ hdep
      have HBW := hid HJ.below
      have HJ := hid HJ
      clear hdep
      refine wpOp_plain rfl rfl ?_
      go_simp
      exact ⟨.pointer (some ⟨gs, 9, none⟩), (by first | rfl | simp [updF, *]), HJ.out.grow rfl (Below.refl _ _) (HST.out _ _ (Below.refl _ _)) (by decide) (by decide) (by decide) (by decide) (by decide) (by decide) (by decide) (by decide) (by decide) (by decide)⟩
    · -- 22: Op.load 26 t43
      intro b σ W hbi HJ hdep
      have ea : σ 21 = .pointer (some ⟨gs, 9, none⟩) := HJ.facts 21 (hdep ⟨21, .data⟩ (by simp) rfl)
      have HBW := hid HJ.below
      have kc := (hr.out.below HBW.out hr.out.lt).cell 9
      simp at kc
      have HJ := hid HJ
      clear hdep
      refine wpOp_plain rfl rfl ?_
      go_simp
      exact ⟨.slice o7 s.purses.length c7, (by first | rfl | simp [updF, *]), HJ.out.grow rfl (Below.refl _ _) (HST.out _ _ (Below.refl _ _)) (by decide) (by decide) (by decide) (by decide) (by decide) (by decide) (by decide) (by decide) (by decide) (by decide)⟩
    · -- 23: Op.call { value (Operand.func 29), args := #[Operand.func 30
      intro b σ W hbi HJ hdep
      have HC := hid (risingPu W)
      have ep : b 20 = true := hdep ⟨20, .chain⟩ (by simp) rfl
      have HBW := hid HJ.below
      have HJ := hid HJ
      clear hdep
      refine wpOp_plain rfl rfl ?_
      go_simp
      refine HC.out.mono ?_
      rintro e w2 ⟨rfl, hb2, hri⟩
      exact ⟨cloPu W.heap.size, (by first | rfl | simp [updF, *]), HJ.out.make23 ep trivial hb2 (HST.out _ _ hb2) ⟨_, rfl, HBW.out.size, hri⟩⟩
    · -- 24: Op.call { value (Operand.func 28), args := #[t44, t45], argT
      intro b σ W hbi HJ hdep
      have ea : σ 22 = .slice o7 s.purses.length c7 := HJ.facts 22 (hdep ⟨22, .data⟩ (by simp) rfl)
      have eb : b 23 = true := hdep ⟨23, .data⟩ (by simp) rfl
      obtain ⟨g, eg, hg1, hg2⟩ : ∃ g, σ 23 = cloPu g ∧ w.heap.size ≤ g ∧ RisePu W g none := HJ.p23 eb hbi
      have HBW := hid HJ.below
      have HC := hid (byOnePu s.purses (.slice o7 s.purses.length c7) N g W hg2 (Nat.le_trans hN hg1) (hm.out.purses.below PuR.stays (HBW.out.mono hN)) hf.out.2.2.2.2.2.2.2.1)
      clear hg2
      have HJ := hid HJ
      clear hdep
      refine wpOp_plain rfl rfl ?_
      go_simp
      refine HC.out.mono ?_
      rintro e w2 ⟨rfl, hb2⟩
      exact ⟨.int .i64 (pursesN s.purses), (by first | rfl | simp [updF, *]), HJ.out.use24 eb hbi rfl (hb2.mono hg1)⟩
    · -- 25: Op.buildSlice 92 7 #[(0, t24), (1, t27), (2, t30), (3, t34),
      intro b σ W hbi HJ hdep
      have e2 : σ 2 = .int .i64 (firstW wrongCl s.clients) := HJ.facts 2 (hdep ⟨2, .data⟩ (by simp) rfl)
      have e5 : σ 5 = .int .i64 (firstW wrongCn s.conns) := HJ.facts 5 (hdep ⟨5, .data⟩ (by simp) rfl)
      have e8 : σ 8 = .int .i64 (firstW wrongCh s.chans) := HJ.facts 8 (hdep ⟨8, .data⟩ (by simp) rfl)
      have e12 : σ 12 = .int .i64 (marksN s.sent) := HJ.facts 12 (hdep ⟨12, .data⟩ (by simp) rfl)
      have e16 : σ 16 = .int .i64 (marksN s.got) := HJ.facts 16 (hdep ⟨16, .data⟩ (by simp) rfl)
      have e20 : σ 20 = .int .i64 (marksN s.acks) := HJ.facts 20 (hdep ⟨20, .data⟩ (by simp) rfl)
      have e24 : σ 24 = .int .i64 (pursesN s.purses) := HJ.facts 24 (hdep ⟨24, .data⟩ (by simp) rfl)
      have ep : b 24 = true := hdep ⟨24, .data⟩ (by simp) rfl
      have HBW := hid HJ.below
      have HJ := hid HJ
      clear hdep
      refine wpOp_plain rfl rfl ?_
      go_simp
      exact ⟨.slice (some ⟨W.heap.size, 0, none⟩) 7 7, (by first | rfl | simp [updF, *]), HJ.out.make25 ep trivial ((Below.refl _ _).alloc (Nat.le_refl _) _) (HST.out _ _ ((Below.refl _ _).alloc (Nat.le_refl _) _)) ⟨W.heap.size, rfl, Row.new _ _ _⟩⟩
    · -- 26: Op.call { value (Operand.func 17), args := #[t47], argTypes 
      intro b σ W hbi HJ hdep
      have eb : b 25 = true := hdep ⟨25, .data⟩ (by simp) rfl
      obtain ⟨g, eg, hg⟩ : ∃ k, σ 25 = .slice (some ⟨k, 0, none⟩) 7 7 ∧ Row W k 54 [.int .i64 (firstW wrongCl s.clients), .int .i64 (firstW wrongCn s.conns), .int .i64 (firstW wrongCh s.chans), .int .i64 (marksN s.sent), .int .i64 (marksN s.got), .int .i64 (marksN s.acks), .int .i64 (pursesN s.purses)] := HJ.p25 eb hbi
      have HC := hid (orE_any [firstW wrongCl s.clients, firstW wrongCn s.conns, firstW wrongCh s.chans, marksN s.sent, marksN s.got, marksN s.acks, pursesN s.purses] g 7 54 W hg rfl (by decide))
      clear hg
      have HBW := hid HJ.below
      have HJ := hid HJ
      clear hdep
      refine wpOp_plain rfl rfl ?_
      go_simp
      refine HC.out.mono ?_
      rintro e w2 ⟨rfl, hw2⟩
      obtain rfl := hw2.symm
      exact ⟨.int .i64 (orN [firstW wrongCl s.clients, firstW wrongCn s.conns, firstW wrongCh s.chans, marksN s.sent, marksN s.got, marksN s.acks, pursesN s.purses]), (by first | rfl | simp [updF, *]), HJ.out.use26 eb hbi rfl (Below.refl _ _)⟩
    · -- 27: Op.assign t48
      intro b σ W hbi HJ hdep
      have ea : σ 26 = .int .i64 (deepS s) := HJ.facts 26 (hdep ⟨26, .data⟩ (by simp) rfl)
      have HBW := hid HJ.below
      have HJ := hid HJ
      clear hdep
      refine wpOp_plain rfl rfl ?_
      go_simp
      exact ⟨.int .i64 (deepS s), (by first | rfl | simp [updF, *]), HJ.out.grow rfl (Below.refl _ _) (HST.out _ _ (Below.refl _ _)) (by decide) (by decide) (by decide) (by decide) (by decide) (by decide) (by decide) (by decide) (by decide) (by decide)⟩
  · intro b σ w' hj hall
    exact hQ.out σ w' hj.below (hj.facts 27 (hall 27 (by decide)))
/-- what Wrong is to answer of a state -/
def StWrongC (f : FuncId) : Prop := ∀ (s : St) (v : Value) (N : Nat) (w : World), StV w N v s → N ≤ w.heap.size → s.fits →
  Calls Tryz.prog f #[v] w fun e w' => e = .returned (.int .i64 (wrongS s)) ∧ Below w.heap.size w w'
set_option maxRecDepth 100000 in
set_option maxHeartbeats 8000000 in
theorem stWrongC : StWrongC 15 := by
  intro s v N w hv hN hfit
  obtain ⟨o1, c1, o2, c2, o3, c3, o4, c4, o5, c5, o6, c6, o7, c7, rfl, hm⟩ := hv.open
  have HM := hid hm
  have HF := hid hfit
  have hfn := hfit.1
  clear hv hm hfit
  obtain ⟨w0, hw0⟩ : ∃ w0, w.alloc (.cells #[.string s.name, .int .i64 s.height, .int .i64 s.time, .slice o1 s.clients.length c1, .slice o2 s.conns.length c2, .slice o3 s.chans.length c3, .slice o4 s.sent.length c4, .slice o5 s.got.length c5, .slice o6 s.acks.length c6, .slice o7 s.purses.length c7] 28) = w0 := ⟨_, rfl⟩
  have hb0 : Below w.heap.size w w0 := by rw [← hw0]; exact (Below.refl _ _).alloc (Nat.le_refl _) _
  have HB0 := hid hb0
  have hr0 := (show Row w0 w.heap.size 28 [.string s.name, .int .i64 s.height, .int .i64 s.time, .slice o1 s.clients.length c1, .slice o2 s.conns.length c2, .slice o3 s.chans.length c3, .slice o4 s.sent.length c4, .slice o5 s.got.length c5, .slice o6 s.acks.length c6, .slice o7 s.purses.length c7] by rw [← hw0]; exact Row.new _ _ _)
  have HR0 := hid hr0
  have k0 := hr0.cell 0
  have k1 := hr0.cell 1
  have k2 := hr0.cell 2
  have k3 := hr0.cell 3
  have k4 := hr0.cell 4
  have k5 := hr0.cell 5
  have k6 := hr0.cell 6
  have k7 := hr0.cell 7
  have k8 := hr0.cell 8
  have k9 := hr0.cell 9
  have HTM := hid (tooMany_any s.name s.height s.time o1 o2 o3 o4 o5 o6 o7 s.clients.length s.conns.length s.chans.length s.sent.length s.got.length s.acks.length s.purses.length c1 c2 c3 c4 c5 c6 c7 w0)
  have HW0 := hid hw0
  clear hr0 hb0 hw0
  have HDN := hid (show wrongS s = if nameB s.name = false then 7 else if (fromB 0 s.height && fromB 0 s.time) = false then 3 else if manyB s = true then 5 else deepS s from rfl)
  cases hn : nameB s.name with
  | false =>
    have HN := hid hn
    have HW := hid (show wrongS s = 7 by rw [HDN.out, hn]; rfl)
    clear hn
    go_enter Tryz.func15, Tryz.ntmps15
    go_wp2_with (go_at_call 27; refine (isName_any _ _ hfn).mono ?_; rintro e w' ⟨rfl, rfl⟩; rw [HN.out])
    go_ret
    exact ⟨by rw [HW.out]; first | done | rfl, by rw [HW0.out]; exact HB0.out⟩
  | true =>
    have HN := hid hn
    cases q1 : fromB 0 s.height with
    | false =>
      have H1 := hid q1
      have HW := hid (show wrongS s = 3 by rw [HDN.out, hn, q1]; simp)
      clear hn q1
      go_enter Tryz.func15, Tryz.ntmps15
      go_wp2_with (first | (go_at_call 27; refine (isName_any _ _ hfn).mono ?_; rintro e w' ⟨rfl, rfl⟩; rw [HN.out]) | (go_at_call 25; refine (from_any _ _ _).mono ?_; rintro e w' ⟨rfl, rfl⟩; rw [H1.out]))
      go_ret
      exact ⟨by rw [HW.out]; first | done | rfl, by rw [HW0.out]; exact HB0.out⟩
    | true =>
      have H1 := hid q1
      cases q2 : fromB 0 s.time with
      | false =>
        have H2 := hid q2
        have HW := hid (show wrongS s = 3 by rw [HDN.out, hn, q1, q2]; simp)
        clear hn q1 q2
        go_enter Tryz.func15, Tryz.ntmps15
        go_wp2_with (first | (go_at_call 27; refine (isName_any _ _ hfn).mono ?_; rintro e w' ⟨rfl, rfl⟩; rw [HN.out]) | (go_at_call 25; refine (from_any _ _ _).mono ?_; rintro e w' ⟨rfl, rfl⟩; first | rw [H1.out] | rw [H2.out]))
        go_ret
        exact ⟨by rw [HW.out]; first | done | rfl, by rw [HW0.out]; exact HB0.out⟩
      | true =>
        have H2 := hid q2
        cases q3 : manyB s with
        | true =>
          have HW := hid (show wrongS s = 5 by rw [HDN.out, hn, q1, q2, q3]; simp)
          have H3 := hid (show decide (4 < s.clients.length ∨ 8 < s.conns.length ∨ 8 < s.chans.length ∨ 50 < s.sent.length ∨ 50 < s.got.length ∨ 50 < s.acks.length ∨ 60 < s.purses.length) = true from q3)
          clear hn q1 q2 q3
          go_enter Tryz.func15, Tryz.ntmps15
          go_upto_region 1 with fail
          rw [HW0.out]
          go_upto_region 5 with (first | (go_at_call 27; refine (isName_any _ _ hfn).mono ?_; rintro e w' ⟨rfl, rfl⟩; rw [HN.out]) | (go_at_call 25; refine (from_any _ _ _).mono ?_; rintro e w' ⟨rfl, rfl⟩; first | rw [H1.out] | rw [H2.out]))
          go_wp2_with fail
          refine HTM.out.mono ?_
          rintro e w1 ⟨rfl, hb1⟩
          rw [H3.out]
          have HB1 := hid (HB0.out.trans (hb1.mono HB0.out.size))
          clear hb1
          go_wp2
          go_ret
          exact ⟨by rw [HW.out]; first | done | rfl, HB1.out⟩
        | false =>
          have HW := hid (show wrongS s = deepS s by rw [HDN.out, hn, q1, q2, q3]; simp)
          have H3 := hid (show decide (4 < s.clients.length ∨ 8 < s.conns.length ∨ 8 < s.chans.length ∨ 50 < s.sent.length ∨ 50 < s.got.length ∨ 50 < s.acks.length ∨ 60 < s.purses.length) = false from q3)
          clear hn q1 q2 q3
          go_enter Tryz.func15, Tryz.ntmps15
          go_upto_region 1 with fail
          rw [HW0.out]
          go_upto_region 5 with (first | (go_at_call 27; refine (isName_any _ _ hfn).mono ?_; rintro e w' ⟨rfl, rfl⟩; rw [HN.out]) | (go_at_call 25; refine (from_any _ _ _).mono ?_; rintro e w' ⟨rfl, rfl⟩; first | rw [H1.out] | rw [H2.out]))
          go_wp2_with fail
          refine HTM.out.mono ?_
          rintro e w1 ⟨rfl, hb1⟩
          rw [H3.out]
          have HB1 := hid (HB0.out.trans (hb1.mono HB0.out.size))
          have HR1 := hid (HR0.out.below hb1 HR0.out.lt)
          clear hb1
          go_upto_region 7 with fail
          refine wrongRegion s o1 o2 o3 o4 o5 o6 o7 c1 c2 c3 c4 c5 c6 c7 (Nat.le_trans hN HB1.out.size) HR1 (hid (HM.out.below (HB1.out.mono hN))) HF _ (hid ?_)
          intro σ7 w2 hb2 h27
          have HB2 := hid (HB1.out.trans (hb2.mono HB1.out.size))
          rw [h27]
          clear hb2 h27
          go_wp2
          go_ret
          exact ⟨by rw [HW.out]; first | done | rfl, HB2.out⟩
end Go.Proofs.YtbjlfhabnjpdmaaGreatDoor
