/-
  Copies of marks; what a copy's pieces read.
-/
import Derived.Test.YtbjlfhabnjpdmaaGreatDoorlaStClone
import Derived.Test.YtbjlfhabnjpdmaaGreatDoorlaSameB
import Derived.Test.YtbjlfhabnjpdmaaGreatDoorlaClAsk
namespace Go.Proofs.YtbjlfhabnjpdmaaGreatDoor
open Go.RowKit

theorem ownsRow_at {w w' : World} {base e k n : Nat} {v : Value} {xs : List Value} (h : w.ownsRow base e k v n xs) (hk : ∀ g, v.ownBlock = some g → w'.heap[g]? = w.heap[g]?) : w'.ownsRow base e k v n xs := by
  obtain ⟨h1, h2⟩ := h
  refine ⟨h1, ?_⟩
  rcases h2 with h2 | ⟨g, cap, cur, h3, h4, h5, h6⟩
  · exact .inl h2
  · exact .inr ⟨g, cap, cur, h3, h4, (hk g (by rw [h3]; rfl)).trans h5, h6⟩
theorem OwnB.held {w : World} {base : Nat} {v : Value} {l : List (BitVec 8)} (h : OwnB w base v l) : Held (fun b => base ≤ b ∧ b < w.heap.size) w (fun w2 => Bytes w2 w2.heap.size v l) :=
  ⟨fun _ hb => hb.2, fun w2 _ hk => OwnB.bytes (show OwnB w2 base v l from ownsRow_at h fun g hg => hk g (World.ownsRow.lt h g hg))⟩
theorem OwnKn.held {w : World} {base : Nat} {v : Value} {ps : List KnR} (h : OwnKn w base v ps) : Held (fun b => base ≤ b ∧ b < w.heap.size) w (fun w2 => Knowns w2 w2.heap.size v (ps.map (·.k))) :=
  ⟨fun _ hb => hb.2, fun _ _ hk => OwnKn.knowns (base := base) ⟨⟨h.1.1, ownsRow_at h.1.2 fun g hg => hk g (World.ownsRow.lt h.1.2 g hg)⟩, fun q hq => ⟨ownsRow_at (h.2 q hq).1 fun g hg => hk g (World.ownsRow.lt (h.2 q hq).1 g hg), ownsRow_at (h.2 q hq).2 fun g hg => hk g (World.ownsRow.lt (h.2 q hq).2 g hg)⟩⟩⟩
/-- a list's row in the open -/
theorem RowsH.at {α : Type} {t : TypeId} {R : World → Nat → List Value → α → Prop} {K N base : Nat} {w : World} {oa : Option Addr} {n c : Nat} {l : List α} {i : Nat} {x : α} (h : RowsH t R K N base w (.slice oa n c) l) (hx : l[i]? = some x) :
    ∃ g rs r, oa = some ⟨g, 0, none⟩ ∧ base ≤ g ∧ g < w.heap.size ∧ rs.length = l.length ∧ RowT t K w base (.slice (some ⟨g, 0, none⟩) n c) rs ∧ rs[i]? = some r ∧ R w w.heap.size r x ∧
      (∀ (j : Nat) r y, rs[j]? = some r → l[j]? = some y → Held (fun b => b ≠ g ∧ (b < N ∨ base ≤ b) ∧ b < w.heap.size) w (fun w2 => R w2 w2.heap.size r y)) ∧
      (∀ (j : Nat) y, r[j]? = some y → w.cell? ⟨g, i * K + j, none⟩ = some y) ∧ ∀ o, w.frozen? ⟨g, o, none⟩ = false := by
  obtain ⟨rs, h1, h2, h3⟩ := h
  have hil : i < rs.length := by rw [h1]; exact (List.getElem?_eq_some_iff.1 hx).1
  obtain ⟨r, hr⟩ : ∃ r, rs[i]? = some r := ⟨_, List.getElem?_eq_getElem hil⟩
  have h2' := h2
  obtain ⟨h4, _, h5⟩ := h2
  rcases h5 with ⟨h6, h7⟩ | ⟨g, cap, cur, h6, h7, h8, h9⟩
  · omega
  · simp only [Value.slice.injEq] at h6
    obtain ⟨rfl, rfl, rfl⟩ := h6
    have hrow : Row w g t cur.toList := by unfold Row; simpa using h8
    have hrec := h2'.recs
    obtain ⟨b, off, e, hc⟩ := hrec.spot (by omega)
    simp only [Option.some.injEq, Addr.mk.injEq] at e
    obtain ⟨rfl, rfl, -⟩ := e
    refine ⟨g, rs, r, rfl, h7, hrow.lt, h1, h2', hr, (h3 i r x hr hx).now, fun j r y hr hy => (h3 j r y hr hy).wide (fun b hF => ⟨fun e => hF.1 (by rw [e]; rfl), hF.2⟩) (fun b hF => hF.2.2), fun j y hy => ?_, fun o => hrow.frozen o⟩
    have := (hc i r hr).2 j y hy
    rw [Nat.zero_add] at this
    exact this
set_option maxRecDepth 100000 in
set_option maxHeartbeats 4000000 in
theorem copiedMarks_any (l : List Mk) (v : Value) (N : Nat) (w : World) (h : Many MkR 3 w N v l) (hN : N ≤ w.heap.size) (hl : l.length ≤ 1000) (hf : ∀ m ∈ l, m.fits) :
    Calls Tryz.prog 71 #[v] w fun e w' => Below w.heap.size w w' ∧ ∃ v', e = .returned v' ∧ RowsH 99 MkR 3 N w.heap.size w' v' l := by
  obtain ⟨rs, h1, h2, h3⟩ := h
  have hok : ∀ r ∈ rs, r.length = 3 ∧ ∀ x ∈ r, x.oneCell' = true := fun r hr => by
    obtain ⟨i, hi⟩ := List.getElem?_of_mem hr
    have hil := (List.getElem?_eq_some_iff.1 hi).1
    obtain ⟨dv, rfl, hd⟩ := h3 i r (l[i]'(by omega)) hi (List.getElem?_eq_getElem _)
    obtain ⟨od, cd, rfl, -⟩ := hd.shape
    exact ⟨rfl, fun x hx => by simp at hx; rcases hx with rfl | rfl | rfl <;> rfl⟩
  have HCL := hid (cloneMk rs v N w h2 hN hok (by omega))
  have HNEW := hid (show ∀ w1 v1, Below w.heap.size w w1 → RowT 99 3 w1 w.heap.size v1 rs → RowsH 99 MkR 3 N w.heap.size w1 v1 l from fun w1 v1 hb hr => RowsH.new MkR.stays h1 hr h3 hN hN hb)
  have HF := hid hf
  clear h1 h2 h3 hok hf
  go_enter Tryz.func71, Tryz.ntmps71
  go_wp2_with fail
  refine HCL.out.mono ?_
  rintro e w1 ⟨hb1, v1, rfl, hrow⟩
  have HRH := hid (HNEW.out _ _ hb1 hrow)
  have HB1 := hid hb1
  obtain ⟨oa, ca, rfl, -⟩ := HRH.out.shape
  clear hb1 hrow
  generalize hn : l.length = n at *
  have HN := hid hn
  clear hn
  go_wp2_with fail
  go_loopw [10] (fun i wr => ∃ k : Nat, k ≤ n ∧ i = .int .i64 (k : Int) ∧ Hid (RowsH 99 MkR 3 N w.heap.size wr (.slice oa n ca) l ∧ Below w.heap.size w wr)) (fun i _ => n - (intOf i).toNat)
  case atStart => exact ⟨0, by omega, rfl, hid ⟨HRH.out, HB1.out⟩⟩
  case round =>
    obtain ⟨k, hk, rfl, HT⟩ := hrel
    have HRW := hid HT.out.1
    have HBW := hid HT.out.2
    have hszw := HBW.out.size
    clear HT
    by_cases hlt : k < n
    · obtain ⟨x, hx⟩ : ∃ x, l[k]? = some x := ⟨l[k]'(by rw [HN.out]; exact hlt), List.getElem?_eq_getElem _⟩
      have hlt' : (k : Int) < (n : Int) := by omega
      obtain ⟨g, rq, r, rfl, hgb, hgl, hq1, hq2, hq3, hq4, hq5, hc, hfz⟩ := HRW.out.at hx
      obtain ⟨dv, rfl, hdv⟩ := hq4
      obtain ⟨od, cd, rfl, -⟩ := hdv.shape
      have f0 := hc 0 _ rfl
      have f1 := hc 1 _ rfl
      have f2 := hc 2 _ rfl
      simp only [Nat.add_zero] at f0
      obtain ⟨w2, hw2⟩ : ∃ w2, wr.alloc (.cells #[.int .i64 x.chan, .int .i64 x.seq, .slice od x.dig.length cd] 99) = w2 := ⟨_, rfl⟩
      have hb2 : Below wr.heap.size wr w2 := by rw [← hw2]; exact (Below.refl _ _).alloc (Nat.le_refl _) _
      have HB2 := hid hb2
      have hr2 : Row w2 wr.heap.size 99 [.int .i64 x.chan, .int .i64 x.seq, .slice od x.dig.length cd] := by rw [← hw2]; exact Row.new _ _ _
      have b2 : w2.cell? ⟨wr.heap.size, 2, none⟩ = some (.slice od x.dig.length cd) := hr2.cell 2
      have HCB := hid (cloneB_any x.dig (.slice od x.dig.length cd) wr.heap.size w2 (hdv.below hb2) (HF.out x (List.mem_of_getElem? hx)))
      have HQ2 := hid hq2
      have HQ5 := hid hq5
      have HQ1 := hid hq1
      have HQ3 := hid hq3
      have HX := hid hx
      have HW2 := hid hw2
      have HC2 := hid (show wr.cell? ⟨g, k * 3 + 2, none⟩ = some (.slice od x.dig.length cd) from f2)
      have HFZ := hid (show wr.frozen? ⟨g, k * 3 + 2, none⟩ = false from hfz _)
      have hgw : g < w2.heap.size := Nat.lt_of_lt_of_le hgl hb2.size
      clear hb2 hr2 hdv hq1 hq2 hq3 hq5 hx hc hfz hw2
      go_upto_region 5 with fail
      rw [HW2.out]
      clear f0 f1 f2
      go_wp2_with fail
      refine HCB.out.mono ?_
      rintro e w3 ⟨hb3, v3, rfl, hown⟩
      obtain ⟨o3, c3, rfl, -⟩ := hown.shape
      have hbx : Below wr.heap.size wr w3 := HB2.out.trans (hb3.mono HB2.out.size)
      have HBX := hid hbx
      have g2 : w3.cell? ⟨g, k * 3 + 2, none⟩ = some (.slice od x.dig.length cd) := (hbx.cell hgl).trans HC2.out
      have gz : w3.frozen? ⟨g, k * 3 + 2, none⟩ = false := (World.frozen?_of_block (hbx.block g hgl)).trans HFZ.out
      have HOW := hid (show Held (fun b => b ≠ g ∧ (b < N ∨ w.heap.size ≤ b) ∧ b < w3.heap.size) w3 (fun wz => MkR wz wz.heap.size [.int .i64 x.chan, .int .i64 x.seq, .slice o3 x.dig.length c3] x) from
        ⟨fun b hb => hb.2.2, fun wz hz hk => ⟨_, rfl, hown.held.2 wz hz fun b hF => hk b ⟨by omega, .inr (by have := HB2.out.size; omega), hF.2⟩⟩⟩)
      have hgs : w3.grownBy (w3.setCell ⟨g, k * 3 + 2, none⟩ (.slice o3 x.dig.length c3)) (some g) := grown_putCells w3 g (k * 3 + 2) [.slice o3 x.dig.length c3]
      have hput := (HQ2.out.below hbx).putCell (j := 2) (x := .slice o3 x.dig.length c3) HQ3.out (by decide) rfl
      have HNR := hid (RowsH.put (t := 99) (R := MkR) (k := 3) (N := N) (base := w.heap.size) (n := n) (c := ca) HQ1.out (fun j r y hr hy => ((HQ5.out j r y hr hy).below hbx).wide (fun b hF => ⟨hF.1, hF.2.1, Nat.lt_of_lt_of_le hF.2.2 hbx.size⟩) (fun b hF => hF.2.2)) HX.out HOW.out hgs hput)
      have HNB := hid (show Below w.heap.size w (w3.setCell ⟨g, k * 3 + 2, none⟩ (.slice o3 x.dig.length c3)) from (HBW.out.trans (hbx.mono hszw)).setCell hgb _)
      clear hb3 hown hbx hgs hput HOW HQ2 HQ5 HQ1 HQ3 HX HC2 HFZ b2
      go_wp2
      go_roundw
      case rel => exact ⟨k + 1, by omega, by go_num, hid ⟨HNR.out, HNB.out⟩⟩
      case measure => simp [intOf]; omega
    · have hge : decide ((k : Int) < (n : Int)) = false := by simp; omega
      go_wp2
      go_ret
      exact ⟨HBW.out, _, rfl, HRW.out⟩
end Go.Proofs.YtbjlfhabnjpdmaaGreatDoor
