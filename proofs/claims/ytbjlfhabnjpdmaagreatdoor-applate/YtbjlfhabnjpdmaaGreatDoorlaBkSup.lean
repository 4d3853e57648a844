/-
  How much there is of something: package bank's Supply, and whether it would be too much.
-/
import Derived.Test.YtbjlfhabnjpdmaaGreatDoorlaBkMath
import Derived.Test.YtbjlfhabnjpdmaaGreatDoorlaFrKit
import Derived.Test.YtbjlfhabnjpdmaaGreatDoorlaStMem
import Derived.Laws.Externs
namespace Go.Proofs.YtbjlfhabnjpdmaaGreatDoor
open Go.RowKit

theorem add64_run (a b : Nat) (ha : a < 18446744073709551616) (hb : b < 18446744073709551616) (w : World) : (callFunc 44 #[.int .u64 (a : Int), .int .u64 (b : Int), .int .u64 0]).run Tryz.prog w = .ok (.value (.tuple #[.int .u64 (((a + b) % 18446744073709551616 : Nat) : Int), .int .u64 (((a + b) / 18446744073709551616 : Nat) : Int)])) w := by
  rw [run_callFunc_extern Tryz.func44 (by kernel_rfl) (by kernel_rfl) (by kernel_rfl) (e := add64Entry) (by kernel_rfl), run_add64 _ _ 0 (by omega) (by omega) (by omega) (by omega)]
  simp only [Result.andThen]
  congr 5 <;> omega
theorem sup_take {l : List Pu} {k : Nat} {p : Pu} (h : l[k]? = some p) (d : ByteArray) : supU (l.take (k + 1)) d = supU (l.take k) d + if p.denom = d then p.amount else 0 := by
  rw [List.take_add_one, h, supU_app]
  simp [supU]
theorem sup_take_le (l : List Pu) (k : Nat) (d : ByteArray) : supU (l.take k) d ≤ supU l d := by
  have := congrArg (fun x => supU x d) (List.take_append_drop k l)
  simp only [supU_app] at this
  omega
theorem boxK {P : Program} {c : Code} {Q : Exit → Act → World → Prop} {a : Act} {w1 : World} {t : TypeId} {cs : List Value} (h : ∀ w2, Row w2 w1.heap.size t cs → Below w1.heap.size w1 w2 → c.wp P Q a w2) : c.wp P Q a (w1.alloc (.cells cs.toArray t)) :=
  h _ (Row.new _ _ _) ((Below.refl _ _).alloc (Nat.le_refl _) _)
/-- how much there is, as it is told -/
def supE (l : List Pu) (d : ByteArray) : Value := .tuple #[.int .u64 ((if supU l d < 18446744073709551616 then supU l d else 0 : Nat) : Int), .bool (decide (18446744073709551616 ≤ supU l d))]
theorem Many.purse {w W : World} {N n c k : Nat} {oa : Option Addr} {l : List Pu} {p : Pu} (h : Many PuR 3 w N (.slice oa n c) l) (hn : 0 < n) (hk : l[k]? = some p) (hb : Below N w W) : ∃ b f, oa = some ⟨b, f, none⟩ ∧ b < N ∧ W.cell? ⟨b, f + k * 3, none⟩ = some (.string p.owner) ∧ W.cell? ⟨b, f + k * 3 + 1, none⟩ = some (.string p.denom) ∧ W.cell? ⟨b, f + k * 3 + 2, none⟩ = some (.int .u64 (p.amount : Int)) := by
  obtain ⟨b, f, he, hcells⟩ := h.spot hn
  obtain ⟨hbN, r, rfl, hc⟩ := hcells k p hk
  have c0 := hc 0 _ rfl
  rw [Nat.add_zero] at c0
  exact ⟨b, f, he, hbN, (hb.cell (p := ⟨b, f + k * 3, none⟩) hbN).trans c0, (hb.cell (p := ⟨b, f + k * 3 + 1, none⟩) hbN).trans (hc 1 _ rfl), (hb.cell (p := ⟨b, f + k * 3 + 2, none⟩) hbN).trans (hc 2 _ rfl)⟩
set_option maxRecDepth 100000 in
set_option maxHeartbeats 4000000 in
theorem supply_any (l : List Pu) (d : ByteArray) (sv : Value) (N : Nat) (w : World) (hN : N ≤ w.heap.size) (hl : Many PuR 3 w N sv l) (hf : ∀ p ∈ l, p.amount < 18446744073709551616) (hlen : l.length < 2305843009213693952) :
    Calls Tryz.prog 16 #[sv, .string d] w fun e w' => e = .returned (supE l d) ∧ Below w.heap.size w w' := by
  obtain ⟨oa, ca, rfl, hca⟩ := hl.shape
  have HL := hid hl
  have HF := hid hf
  clear hl hf
  generalize hn : l.length = n at *
  have HN := hid hn
  clear hn
  go_enter Tryz.func16, Tryz.ntmps16
  go_wp2_with fail
  go_loopw [6, 7, 12] (fun s6 s7 s12 wr => ∃ k S : Nat, k ≤ n ∧ s12 = .int .i64 k ∧ s6 = .int .u64 S ∧ S < 18446744073709551616 ∧ s7 = .int .u64 0 ∧ Hid (supU (l.take k) d = S) ∧ Hid (Below w.heap.size w wr)) (fun _ _ s12 _ => n - (intOf s12).toNat)
  case atStart => exact ⟨0, 0, Nat.zero_le _, rfl, rfl, by decide, rfl, rfl, Below.refl _ _⟩
  case round =>
    obtain ⟨k, S, hk, rfl, rfl, hS, rfl, HS, HB⟩ := hrel
    by_cases hlt : k < n
    · obtain ⟨p, hp⟩ : ∃ p, l[k]? = some p := ⟨l[k]'(by rw [HN.out]; exact hlt), List.getElem?_eq_getElem _⟩
      obtain ⟨b, f, rfl, hbN, c0, c1, c2⟩ := HL.out.purse (by omega) hp (HB.out.mono hN)
      have HT := hid (sup_take hp d)
      have hpa := HF.out p (List.mem_of_getElem? hp)
      have hlt' : (k : Int) < (n : Int) := by omega
      have hsz := HB.out.size
      have hbs : b < wr.heap.size := by omega
      clear hp
      go_upto_region 5 with fail
      refine boxK ?_
      intro w1 hr1 hb1
      have HB1 := hid (HB.out.trans (hb1.mono hsz))
      obtain ⟨k0, k1, k2⟩ := hr1.k3
      clear c0 c1 c2 hr1 hb1 hbs
      by_cases hd : p.denom = d
      · subst hd
        rw [if_pos rfl] at HT
        have ha := add64_run S p.amount hS hpa
        by_cases hov : S + p.amount < 18446744073709551616
        · rw [Nat.mod_eq_of_lt hov, Nat.div_eq_of_lt hov] at ha
          go_wp2_with fail
          refine ⟨⟨k + 1, S + p.amount, by omega, by go_num, rfl, hov, rfl, by rw [← HS.out]; exact HT.out, HB1.out⟩, by simp [intOf]; omega⟩
        · obtain ⟨q, hq⟩ : ∃ q, (S + p.amount) / 18446744073709551616 = q := ⟨_, rfl⟩
          have hq1 : decide ((0 : Int) < (q : Int)) = true := by simp; omega
          have HX := hid (sup_take_le l (k + 1) p.denom)
          rw [hq] at ha
          go_wp2
          go_ret2
          have := HT.out
          have := HX.out
          have := HS.out
          refine ⟨?_, HB1.out⟩
          unfold supE
          rw [if_neg (by omega), decide_eq_true (by omega : 18446744073709551616 ≤ supU l p.denom)]
          rfl
      · rw [if_neg hd, Nat.add_zero] at HT
        have hd' : (p.denom.toList == d.toList) = false := by simp; exact fun h => hd (toList_inj h)
        clear hd
        go_wp2_with fail
        refine ⟨⟨k + 1, S, by omega, by go_num, rfl, hS, rfl, by rw [← HS.out]; exact HT.out, HB1.out⟩, by simp [intOf]; omega⟩
    · obtain rfl : k = n := by omega
      have hlt' : decide ((k : Int) < (k : Int)) = false := by simp
      go_wp2
      go_ret2
      have := HS.out
      rw [← HN.out, List.take_length] at this
      refine ⟨?_, HB.out⟩
      unfold supE
      rw [this, if_pos hS, decide_eq_false (by omega : ¬ 18446744073709551616 ≤ S)]
      rfl
set_option maxRecDepth 100000 in
set_option maxHeartbeats 4000000 in
theorem beyond_any (l : List Pu) (d : ByteArray) (x : Nat) (sv : Value) (N : Nat) (w : World) (hN : N ≤ w.heap.size) (hl : Many PuR 3 w N sv l) (hf : ∀ p ∈ l, p.amount < 18446744073709551616) (hlen : l.length < 2305843009213693952) (hx : x < 18446744073709551616) :
    Calls Tryz.prog 250 #[sv, .string d, .int .u64 (x : Int)] w fun e w' => e = .returned (.bool (decide (18446744073709551616 ≤ supU l d + x))) ∧ Below w.heap.size w w' := by
  have HC := hid (supply_any l d sv N w hN hl hf hlen)
  unfold supE at HC
  obtain ⟨oa, ca, rfl, -⟩ := hl.shape
  clear hl hf
  by_cases hs : supU l d < 18446744073709551616
  · rw [if_pos hs, decide_eq_false (by omega : ¬ 18446744073709551616 ≤ supU l d)] at HC
    have ha := add64_run (supU l d) x hs hx
    generalize supU l d = S at *
    obtain ⟨q, hq⟩ : ∃ q, (S + x) / 18446744073709551616 = q := ⟨_, rfl⟩
    have HQ := hid (show decide (0 < q) = decide (18446744073709551616 ≤ S + x) by rw [decide_eq_decide]; omega)
    rw [hq] at ha
    clear hq
    go_enter Tryz.func250, Tryz.ntmps250
    go_wp2_with fail
    refine HC.out.mono ?_
    rintro e w1 ⟨rfl, hb⟩
    have HB := hid hb
    clear hb
    go_wp2
    go_ret
    exact ⟨by rw [← HQ.out]; rfl, HB.out⟩
  · rw [if_neg hs, decide_eq_true (by omega : 18446744073709551616 ≤ supU l d)] at HC
    obtain ⟨q, r, ha⟩ : ∃ q r : Nat, ∀ w : World, (callFunc 44 #[.int .u64 0, .int .u64 (x : Int), .int .u64 0]).run Tryz.prog w = .ok (.value (.tuple #[.int .u64 (r : Int), .int .u64 (q : Int)])) w := ⟨_, _, add64_run 0 x (by decide) hx⟩
    go_enter Tryz.func250, Tryz.ntmps250
    go_wp2_with fail
    refine HC.out.mono ?_
    rintro e w1 ⟨rfl, hb⟩
    have HB := hid hb
    clear hb
    go_wp2
    go_ret
    exact ⟨by rw [decide_eq_true (by omega : 18446744073709551616 ≤ supU l d + x)]; rfl, HB.out⟩
end Go.Proofs.YtbjlfhabnjpdmaaGreatDoor
