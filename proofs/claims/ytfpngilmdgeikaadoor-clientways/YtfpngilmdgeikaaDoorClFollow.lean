/-
  What package client's doubts, as a function, and Follow answer.
-/
import Derived.Test.YtfpngilmdgeikaaDoorClDoubt
import Derived.Test.YtfpngilmdgeikaaDoorClLearnW
namespace Go.Proofs.YtfpngilmdgeikaaDoor
open Go.RowKit

/-- what doubts answers: a function over two boxes -/
theorem doubts_any (c : Cl) (now : Int) (oa : Option Addr) (ca : Nat) (b : Bool) (n : Nat) (w : World) :
    Calls Tryd.prog 85 #[.agg #[.string c.chain, .int .i64 c.trust, .bool b, .slice oa n ca], .int .i64 now] w fun e w' => e = .returned (.func (.func 125) #[] #[.pointer (some ⟨w.heap.size, 0, none⟩), .pointer (some ⟨w.heap.size + 1, 0, none⟩)]) ∧ Row w' w.heap.size 59 [.string c.chain, .int .i64 c.trust, .bool b, .slice oa n ca] ∧ Row w' (w.heap.size + 1) 3 [.int .i64 now] ∧ Below w.heap.size w w' := by
  obtain ⟨w0, hw0⟩ : ∃ w0, (w.alloc (.cells #[.string c.chain, .int .i64 c.trust, .bool b, .slice oa n ca] 59)).alloc (.cells #[.int .i64 now] 3) = w0 := ⟨_, rfl⟩
  have HB0 := hid (show Below w.heap.size w w0 by rw [← hw0]; exact ((Below.refl _ _).alloc (Nat.le_refl _) _).alloc (by simp) _)
  have HR0 := hid (show Row w0 w.heap.size 59 [.string c.chain, .int .i64 c.trust, .bool b, .slice oa n ca] by rw [← hw0]; exact (Row.new _ _ _).alloc _)
  have HR1 := hid (show Row w0 (w.heap.size + 1) 3 [.int .i64 now] by rw [← hw0]; exact Row.newAt _ _ _ _ (by simp))
  have HW0 := hid hw0
  clear hw0
  go_enter Tryd.func85, Tryd.ntmps85
  go_wp2
  go_ret
  rw [HW0.out]
  exact ⟨rfl, HR0.out, HR1.out, HB0.out⟩
/-- a client's row is another block than what is known lies in -/
theorem cl_apart {w : World} {g : Nat} {t : TypeId} {s : ByteArray} {a x y : Int} {b : Bool} {o : Option Addr} {n m k j : Nat} (hr : Row w g t [.string s, .int .i64 a, .bool b, .slice o n m]) (h1 : w.cell? ⟨k, j, none⟩ = some (.int .i64 x)) (h2 : w.cell? ⟨k, j + 1, none⟩ = some (.int .i64 y)) : k ≠ g := by
  rintro rfl
  rw [hr.cell] at h1 h2
  rcases j with _ | _ | _ | _ | j
  · simp at h1
  · simp at h2
  · simp at h1
  · simp at h1
  · simp at h1
theorem Bytes.cl {w w' : World} {N g : Nat} {t : TypeId} {s : ByteArray} {a : Int} {b : Bool} {o : Option Addr} {n m : Nat} {v : Value} {l : List (BitVec 8)} (h : Bytes w N v l) (hr : Row w g t [.string s, .int .i64 a, .bool b, .slice o n m]) (ho : ∀ k, k ≠ g → w'.heap[k]? = w.heap[k]?) : Bytes w' N v l := by
  rcases h with h | h | ⟨k, off, cap, h1, h2, h3⟩
  · exact .inl h
  · exact .inr (.inl h)
  · refine .inr (.inr ⟨k, off, cap, h1, h2, fun i hi => ⟨(h3 i hi).1, ?_⟩⟩)
    have hc := (h3 i hi).2
    rw [← hc]
    refine World.cell?_of_block (ho k ?_)
    rintro rfl
    rw [hr.cell] at hc
    generalize off + i = x at hc
    rcases x with _ | _ | _ | _ | x
    · simp at hc
    · simp at hc
    · simp at hc
    · simp at hc
    · simp at hc
theorem Knowns.cl {w w' : World} {N g : Nat} {t : TypeId} {s : ByteArray} {a : Int} {b : Bool} {o : Option Addr} {n m : Nat} {v : Value} {l : List Kn} (h : Knowns w N v l) (hr : Row w g t [.string s, .int .i64 a, .bool b, .slice o n m]) (ho : ∀ k, k ≠ g → w'.heap[k]? = w.heap[k]?) : Knowns w' N v l := by
  obtain ⟨ps, h1, h2, h3⟩ := h
  refine ⟨ps, h1, ?_, fun q hq => ⟨(h3 q hq).1.cl hr ho, (h3 q hq).2.cl hr ho⟩⟩
  rcases h2 with h2 | h2 | ⟨k, off, cap, e1, e2, e3⟩
  · exact .inl h2
  · exact .inr (.inl h2)
  · refine .inr (.inr ⟨k, off, cap, e1, e2, fun i r hi => ?_⟩)
    obtain ⟨f1, f2⟩ := e3 i r hi
    refine ⟨f1, fun j x hx => ?_⟩
    obtain ⟨q, _, rfl⟩ := List.mem_map.1 (List.mem_of_getElem? hi)
    rw [← f2 j x hx]
    exact World.cell?_of_block (ho k (cl_apart hr (f2 0 _ rfl) (f2 1 _ rfl)))
/-- what Follow is to answer -/
def FollowC (f : FuncId) : Prop := ∀ (c : Cl) (u : Up) (now : Int) (cv uv : Value) (N : Nat) (w : World), tableAt w → N ≤ w.heap.size → ClV w N cv c → UpV w N uv u → c.fits → u.fits →
  Calls Tryd.prog f #[cv, uv, .int .i64 now] w fun e w' => Below w.heap.size w w' ∧ ∃ o n m, e = .returned (.tuple #[.agg #[.string (followC c u now).chain, .int .i64 (followC c u now).trust, .bool (followC c u now).frozen, .slice o n m], .int .i64 (followE c u now)]) ∧ Knowns w' w'.heap.size (.slice o n m) (followC c u now).known
theorem followC_no {c : Cl} {u : Up} {now : Int} (h : followE c u now ≠ 0) : followC c u now = Cl.none := by unfold followC; rw [if_neg h]
theorem followC_yes {c : Cl} {u : Up} {now : Int} (h : followE c u now = 0) : followC c u now = learnC c (knOf u.sg.hd) := by unfold followC; rw [if_pos h]
theorem followE_ask {c : Cl} {u : Up} {now : Int} (h : askedN c now ≠ 0) : followE c u now = askedN c now := by unfold followE; rw [if_pos h]
theorem followE_bel {c : Cl} {u : Up} {now : Int} (h : askedN c now = 0) : followE c u now = believeN c u now := by unfold followE; rw [if_neg (by omega)]
set_option maxRecDepth 100000 in
set_option maxHeartbeats 8000000 in
theorem clFollowC : FollowC 38 := by
  intro c u now cv uv N w htab hN hcv huv hcf huf
  have HUV := hid huv
  have HCV := hid hcv
  obtain ⟨kv, rfl, hk⟩ := hcv
  obtain ⟨oa, ca, rfl, hca⟩ := hk.shape
  obtain ⟨o1, c1, o2, c2, o3, c3, o4, c4, o5, c5, o6, c6, rfl, h1, h2, h3, h4, h5, h6⟩ := huv.open
  obtain ⟨w0, hw0⟩ : ∃ w0, ((w.alloc (.cells #[.string c.chain, .int .i64 c.trust, .bool c.frozen, .slice oa c.known.length ca] 59)).alloc (.cells #[.int .i64 u.frm, .string u.sg.hd.chain, .int .i64 u.sg.hd.height, .int .i64 u.sg.hd.time, .slice o1 u.sg.hd.root.length c1, .slice o2 u.sg.hd.vals.length c2, .slice o3 u.sg.hd.next.length c3, .slice o4 u.sg.vals.length c4, .slice o5 u.sg.votes.length c5, .slice o6 u.trusted.length c6] 68)).alloc (.cells #[.string ⟨#[]⟩, .int .i64 0, .bool false, .slice none 0 0] 59) = w0 := ⟨_, rfl⟩
  have hb0 : Below w.heap.size w w0 := by rw [← hw0]; exact (((Below.refl _ _).alloc (Nat.le_refl _) _).alloc (by simp) _).alloc (by simp; omega) _
  have HRC0 := hid (show Row w0 w.heap.size 59 [.string c.chain, .int .i64 c.trust, .bool c.frozen, .slice oa c.known.length ca] by rw [← hw0]; exact ((Row.new _ _ _).alloc _).alloc _)
  have HRU0 := hid (show Row w0 (w.heap.size + 1) 68 [.int .i64 u.frm, .string u.sg.hd.chain, .int .i64 u.sg.hd.height, .int .i64 u.sg.hd.time, .slice o1 u.sg.hd.root.length c1, .slice o2 u.sg.hd.vals.length c2, .slice o3 u.sg.hd.next.length c3, .slice o4 u.sg.vals.length c4, .slice o5 u.sg.votes.length c5, .slice o6 u.trusted.length c6] by rw [← hw0]; exact (Row.newAt _ _ _ _ (by simp)).alloc _)
  have HRZ0 := hid (show Row w0 (w.heap.size + 1 + 1) 59 [.string ⟨#[]⟩, .int .i64 0, .bool false, .slice none 0 0] by rw [← hw0]; exact Row.newAt _ _ _ _ (by simp))
  have HAS := hid (askedC c now (.agg #[.string c.chain, .int .i64 c.trust, .bool c.frozen, .slice oa c.known.length ca]) N w0 ⟨_, rfl, hk.below (hb0.mono hN)⟩ (Nat.le_trans hN hb0.size) hcf)
  have HK := hid hk
  have HH1 := hid h1
  have HH3 := hid h3
  have HTAB := hid htab
  have HB0 := hid hb0
  have HCF := hid hcf
  have HUF := hid huf
  have HW0 := hid hw0
  obtain ⟨⟨a0, a1, a2, a3⟩, _⟩ := HRC0.out.four
  clear hk h1 h2 h3 h4 h5 h6 htab hb0 hcf huf hw0
  by_cases hask : askedN c now = 0
  · have HASK := hid hask
    obtain ⟨hcw, -, hfz⟩ := askedN_ok hask
    obtain ⟨_, _, ⟨hk1, hk30⟩, hkall, hkris⟩ := (wrongCl_iff c).1 hcw
    have HFZ := hid hfz
    have HRIS := hid hkris
    have HFE := hid (followE_bel (u := u) hask)
    have HDB := hid (show ∀ (wx : World) (gc gn : Nat), Below w.heap.size w wx → Row wx gc 59 [.string c.chain, .int .i64 c.trust, .bool c.frozen, .slice oa c.known.length ca] → Row wx gn 3 [.int .i64 now] → Calls Tryd.prog 125 #[.agg #[.int .i64 u.frm, .string u.sg.hd.chain, .int .i64 u.sg.hd.height, .int .i64 u.sg.hd.time, .slice o1 u.sg.hd.root.length c1, .slice o2 u.sg.hd.vals.length c2, .slice o3 u.sg.hd.next.length c3, .slice o4 u.sg.vals.length c4, .slice o5 u.sg.votes.length c5, .slice o6 u.trusted.length c6], .pointer (some ⟨gc, 0, none⟩), .pointer (some ⟨gn, 0, none⟩)] wx fun e w' => e = .returned (.int .i64 (believeN c u now)) ∧ Below wx.heap.size wx w' from fun wx gc gn hx hr1 hr2 =>
      doubt_any c u now gc gn oa ca _ N wx (HTAB.out.below hx HTAB.out.lt) (Nat.le_trans hN hx.size) hr1 hr2 (HK.out.below (hx.mono hN)) (HUV.out.below (hx.mono hN)) HCF.out HUF.out HASK.out)
    have HCP := hid (show ∀ wx, Below w.heap.size w wx → Calls Tryd.prog 87 #[.agg #[.string c.chain, .int .i64 c.trust, .bool c.frozen, .slice oa c.known.length ca]] wx fun e w' => Below wx.heap.size wx w' ∧ ∃ o m ps, e = .returned (.agg #[.string c.chain, .int .i64 c.trust, .bool c.frozen, .slice o ps.length m]) ∧ OwnKn w' wx.heap.size (.slice o ps.length m) ps ∧ ps.map (·.k) = c.known from fun wx hx =>
      copiedCl_any c _ N wx (HCV.out.below (hx.mono hN)) (Nat.le_trans hN hx.size) HCF.out (by omega))
    have HKF := hid (show (knOf u.sg.hd).fits from ⟨HUF.out.1.1.2.1, HUF.out.1.1.2.2.2⟩)
    have HCK := hid (show ∀ wx, Below w.heap.size w wx → Calls Tryd.prog 88 #[.agg #[.int .i64 u.sg.hd.height, .int .i64 u.sg.hd.time, .slice o1 u.sg.hd.root.length c1, .slice o3 u.sg.hd.next.length c3]] wx fun e w' => Below wx.heap.size wx w' ∧ ∃ p1 d1 p2 d2, e = .returned (.agg #[.int .i64 (knOf u.sg.hd).height, .int .i64 (knOf u.sg.hd).time, .slice p1 (knOf u.sg.hd).root.length d1, .slice p2 (knOf u.sg.hd).next.length d2]) ∧ OwnB w' wx.heap.size (.slice p1 (knOf u.sg.hd).root.length d1) (knOf u.sg.hd).root ∧ OwnB w' wx.heap.size (.slice p2 (knOf u.sg.hd).next.length d2) (knOf u.sg.hd).next from fun wx hx =>
      copiedKnown_any (knOf u.sg.hd) (.agg #[.int .i64 u.sg.hd.height, .int .i64 u.sg.hd.time, .slice o1 u.sg.hd.root.length c1, .slice o3 u.sg.hd.next.length c3]) N wx ⟨_, _, rfl, HH1.out.below (hx.mono hN), HH3.out.below (hx.mono hN)⟩ (Nat.le_trans hN hx.size) HKF.out)
    have HLN := hid (show ∀ (wx : World) (base : Nat) (o : Option Addr) (m : Nat) (ps : List KnR) (rv nv : Value), ps.map (·.k) = c.known → OwnKn wx base (.slice o ps.length m) ps → OwnB wx base rv (knOf u.sg.hd).root → OwnB wx base nv (knOf u.sg.hd).next → base ≤ wx.heap.size → Calls Tryd.prog 86 #[.agg #[.string c.chain, .int .i64 c.trust, .bool false, .slice o ps.length m], .agg #[.int .i64 (knOf u.sg.hd).height, .int .i64 (knOf u.sg.hd).time, rv, nv]] wx fun e w' => Below base wx w' ∧ ∃ o' n' m', e = .returned (.agg #[.string c.chain, .int .i64 c.trust, .bool (learnC c (knOf u.sg.hd)).frozen, .slice o' n' m']) ∧ Knowns w' w'.heap.size (.slice o' n' m') (learnC c (knOf u.sg.hd)).known from fun wx base o m ps rv nv hps ho hr hn hb =>
      learn_any c ps ⟨knOf u.sg.hd, rv, nv⟩ o m base wx hps HFZ.out ho ⟨hr, hn⟩ hb HRIS.out (by have := congrArg List.length hps; rw [List.length_map] at this; omega))
    rw [HFZ.out] at HAS HDB HCP HRC0
    simp only [hfz] at a2
    have HW0' := hid HW0.out
    rw [HFZ.out] at HW0'
    rw [HFZ.out]
    clear hask hcw hfz hk1 hk30 hkall hkris hca HW0 HCV
    generalize hn : c.known.length = n at *
    clear hn
    go_enter Tryd.func38, Tryd.ntmps38
    go_wp2_with fail
    rw [HW0'.out]
    refine HAS.out.mono ?_
    rintro e w1 ⟨rfl, hb1⟩
    rw [HASK.out]
    have HB1 := hid (HB0.out.trans (hb1.mono HB0.out.size))
    have HRC1 := hid (HRC0.out.below hb1 HRC0.out.lt)
    have HRU1 := hid (HRU0.out.below hb1 HRU0.out.lt)
    have HRZ1 := hid (HRZ0.out.below hb1 HRZ0.out.lt)
    clear hb1 a0 a1 a2 a3
    have HBC := hid (show ∀ wx, Below w1.heap.size w1 wx → (((wx.cell? ⟨w.heap.size, 0, none⟩ = some (.string c.chain)) ∧ ((wx.cell? ⟨w.heap.size, 1, none⟩ = some (.int .i64 c.trust)) ∧ (wx.cell? ⟨w.heap.size, 2, none⟩ = some (.bool false)))) ∧ (((wx.cell? ⟨w.heap.size, 3, none⟩ = some (.slice oa n ca)) ∧ (wx.cell? ⟨w.heap.size + 1, 0, none⟩ = some (.int .i64 u.frm))) ∧ ((wx.cell? ⟨w.heap.size + 1, 1, none⟩ = some (.string u.sg.hd.chain)) ∧ (wx.cell? ⟨w.heap.size + 1, 2, none⟩ = some (.int .i64 u.sg.hd.height))))) ∧ (((wx.cell? ⟨w.heap.size + 1, 3, none⟩ = some (.int .i64 u.sg.hd.time)) ∧ ((wx.cell? ⟨w.heap.size + 1, 4, none⟩ = some (.slice o1 u.sg.hd.root.length c1)) ∧ (wx.cell? ⟨w.heap.size + 1, 5, none⟩ = some (.slice o2 u.sg.hd.vals.length c2)))) ∧ (((wx.cell? ⟨w.heap.size + 1, 6, none⟩ = some (.slice o3 u.sg.hd.next.length c3)) ∧ (wx.cell? ⟨w.heap.size + 1, 7, none⟩ = some (.slice o4 u.sg.vals.length c4))) ∧ ((wx.cell? ⟨w.heap.size + 1, 8, none⟩ = some (.slice o5 u.sg.votes.length c5)) ∧ (wx.cell? ⟨w.heap.size + 1, 9, none⟩ = some (.slice o6 u.trusted.length c6))))) from fun wx hx => ⟨⟨⟨(HRC1.out.below hx HRC1.out.lt).cell 0, ⟨(HRC1.out.below hx HRC1.out.lt).cell 1, (HRC1.out.below hx HRC1.out.lt).cell 2⟩⟩, ⟨⟨(HRC1.out.below hx HRC1.out.lt).cell 3, (HRU1.out.below hx HRU1.out.lt).cell 0⟩, ⟨(HRU1.out.below hx HRU1.out.lt).cell 1, (HRU1.out.below hx HRU1.out.lt).cell 2⟩⟩⟩, ⟨⟨(HRU1.out.below hx HRU1.out.lt).cell 3, ⟨(HRU1.out.below hx HRU1.out.lt).cell 4, (HRU1.out.below hx HRU1.out.lt).cell 5⟩⟩, ⟨⟨(HRU1.out.below hx HRU1.out.lt).cell 6, (HRU1.out.below hx HRU1.out.lt).cell 7⟩, ⟨(HRU1.out.below hx HRU1.out.lt).cell 8, (HRU1.out.below hx HRU1.out.lt).cell 9⟩⟩⟩⟩)
    have HBD := hid (show Below w1.heap.size w1 w1.drew from (Below.refl _ _).drew)
    have s0 := HBC.out w1 (Below.refl _ _)
    have s1 := HBC.out _ HBD.out
    go_wp2_with fail
    go_region_held3 (fun W => (((W.cell? ⟨w.heap.size, 0, none⟩ = some (.string c.chain)) ∧ ((W.cell? ⟨w.heap.size, 1, none⟩ = some (.int .i64 c.trust)) ∧ (W.cell? ⟨w.heap.size, 2, none⟩ = some (.bool false)))) ∧ (((W.cell? ⟨w.heap.size, 3, none⟩ = some (.slice oa n ca)) ∧ (W.cell? ⟨w.heap.size + 1, 0, none⟩ = some (.int .i64 u.frm))) ∧ ((W.cell? ⟨w.heap.size + 1, 1, none⟩ = some (.string u.sg.hd.chain)) ∧ (W.cell? ⟨w.heap.size + 1, 2, none⟩ = some (.int .i64 u.sg.hd.height))))) ∧ (((W.cell? ⟨w.heap.size + 1, 3, none⟩ = some (.int .i64 u.sg.hd.time)) ∧ ((W.cell? ⟨w.heap.size + 1, 4, none⟩ = some (.slice o1 u.sg.hd.root.length c1)) ∧ (W.cell? ⟨w.heap.size + 1, 5, none⟩ = some (.slice o2 u.sg.hd.vals.length c2)))) ∧ (((W.cell? ⟨w.heap.size + 1, 6, none⟩ = some (.slice o3 u.sg.hd.next.length c3)) ∧ (W.cell? ⟨w.heap.size + 1, 7, none⟩ = some (.slice o4 u.sg.vals.length c4))) ∧ ((W.cell? ⟨w.heap.size + 1, 8, none⟩ = some (.slice o5 u.sg.votes.length c5)) ∧ (W.cell? ⟨w.heap.size + 1, 9, none⟩ = some (.slice o6 u.trusted.length c6)))))) (first | assumption) (first
      | (go_at_call 85; refine (doubts_any c now oa ca false n _).mono ?_; rintro e w5 ⟨rfl, hr5, hs5, hb5⟩; have HB5 := hid (HBD.out.trans hb5); have s5 := HBC.out _ HB5.out; have HRD5 := hid hr5; have HRE5 := hid hs5; have HBW5 := hid (HB1.out.trans (HB5.out.mono HB1.out.size)); clear hb5 hr5 hs5)
      | (go_at_call 125; refine (HDB.out _ _ _ HBW5.out HRD5.out HRE5.out).mono ?_; rintro e w6 ⟨rfl, hb6⟩; have HB6 := hid (HB5.out.trans (hb6.mono HB5.out.size)); have s6 := HBC.out _ HB6.out; clear hb6))
    all_goals
      have HBW6 := hid (HB1.out.trans (HB6.out.mono HB1.out.size))
      have HRC6 := hid (HRC1.out.below HB6.out HRC1.out.lt)
      have HRU6 := hid (HRU1.out.below HB6.out HRU1.out.lt)
      have HRZ6 := hid (HRZ1.out.below HB6.out HRZ1.out.lt)
      clear s0 s1 s5 s6
      by_cases hbl : believeN c u now = 0
      · have HFE0 := hid (show followE c u now = 0 by rw [HFE.out, hbl])
        have HFC := hid (followC_yes HFE0.out)
        rw [hbl]
        clear hbl
        obtain ⟨gh, hgh⟩ : ∃ gh, w6.heap.size = gh := ⟨_, rfl⟩
        obtain ⟨w7, hw7⟩ : ∃ w7, w6.alloc (.cells #[.string u.sg.hd.chain, .int .i64 u.sg.hd.height, .int .i64 u.sg.hd.time, .slice o1 u.sg.hd.root.length c1, .slice o2 u.sg.hd.vals.length c2, .slice o3 u.sg.hd.next.length c3] 25) = w7 := ⟨_, rfl⟩
        have hb7 : Below w6.heap.size w6 w7 := by rw [← hw7]; exact (Below.refl _ _).alloc (Nat.le_refl _) _
        have HRH7 := hid (show Row w7 gh 25 [.string u.sg.hd.chain, .int .i64 u.sg.hd.height, .int .i64 u.sg.hd.time, .slice o1 u.sg.hd.root.length c1, .slice o2 u.sg.hd.vals.length c2, .slice o3 u.sg.hd.next.length c3] by rw [← hw7, ← hgh]; exact Row.new _ _ _)
        have HRC7 := hid (HRC6.out.below hb7 HRC6.out.lt)
        have HRZ7 := hid (HRZ6.out.below hb7 HRZ6.out.lt)
        have HBW7 := hid (HBW6.out.trans (hb7.mono HBW6.out.size))
        have HBC8 := hid (show ∀ wx, Below w7.heap.size w7 wx → (((wx.cell? ⟨w.heap.size, 0, none⟩ = some (.string c.chain)) ∧ (wx.cell? ⟨w.heap.size, 1, none⟩ = some (.int .i64 c.trust))) ∧ ((wx.cell? ⟨w.heap.size, 2, none⟩ = some (.bool false)) ∧ (wx.cell? ⟨w.heap.size, 3, none⟩ = some (.slice oa n ca)))) ∧ (((wx.cell? ⟨gh, 1, none⟩ = some (.int .i64 u.sg.hd.height)) ∧ (wx.cell? ⟨gh, 2, none⟩ = some (.int .i64 u.sg.hd.time))) ∧ ((wx.cell? ⟨gh, 3, none⟩ = some (.slice o1 u.sg.hd.root.length c1)) ∧ (wx.cell? ⟨gh, 5, none⟩ = some (.slice o3 u.sg.hd.next.length c3)))) from fun wx hx => ⟨⟨⟨(HRC7.out.below hx HRC7.out.lt).cell 0, (HRC7.out.below hx HRC7.out.lt).cell 1⟩, ⟨(HRC7.out.below hx HRC7.out.lt).cell 2, (HRC7.out.below hx HRC7.out.lt).cell 3⟩⟩, ⟨⟨(HRH7.out.below hx HRH7.out.lt).cell 1, (HRH7.out.below hx HRH7.out.lt).cell 2⟩, ⟨(HRH7.out.below hx HRH7.out.lt).cell 3, (HRH7.out.below hx HRH7.out.lt).cell 5⟩⟩⟩)
        have HBZ8 := hid (show ∀ (wx : World) (x : Bool) (o9 : Option Addr) (n9 m9 : Nat), Below w7.heap.size w7 wx → ((((set4 wx (w.heap.size + 1 + 1) (.string c.chain) (.int .i64 c.trust) (.bool x) (.slice o9 n9 m9)).cell? ⟨w.heap.size, 0, none⟩ = some (.string c.chain)) ∧ ((set4 wx (w.heap.size + 1 + 1) (.string c.chain) (.int .i64 c.trust) (.bool x) (.slice o9 n9 m9)).cell? ⟨w.heap.size, 1, none⟩ = some (.int .i64 c.trust))) ∧ (((set4 wx (w.heap.size + 1 + 1) (.string c.chain) (.int .i64 c.trust) (.bool x) (.slice o9 n9 m9)).cell? ⟨w.heap.size, 2, none⟩ = some (.bool false)) ∧ ((set4 wx (w.heap.size + 1 + 1) (.string c.chain) (.int .i64 c.trust) (.bool x) (.slice o9 n9 m9)).cell? ⟨w.heap.size, 3, none⟩ = some (.slice oa n ca)))) ∧ ((((set4 wx (w.heap.size + 1 + 1) (.string c.chain) (.int .i64 c.trust) (.bool x) (.slice o9 n9 m9)).cell? ⟨gh, 1, none⟩ = some (.int .i64 u.sg.hd.height)) ∧ ((set4 wx (w.heap.size + 1 + 1) (.string c.chain) (.int .i64 c.trust) (.bool x) (.slice o9 n9 m9)).cell? ⟨gh, 2, none⟩ = some (.int .i64 u.sg.hd.time))) ∧ (((set4 wx (w.heap.size + 1 + 1) (.string c.chain) (.int .i64 c.trust) (.bool x) (.slice o9 n9 m9)).cell? ⟨gh, 3, none⟩ = some (.slice o1 u.sg.hd.root.length c1)) ∧ ((set4 wx (w.heap.size + 1 + 1) (.string c.chain) (.int .i64 c.trust) (.bool x) (.slice o9 n9 m9)).cell? ⟨gh, 5, none⟩ = some (.slice o3 u.sg.hd.next.length c3)))) from fun wx x o9 n9 m9 hx => by
          have hz := HRZ7.out.below hx HRZ7.out.lt
          have ho := set4_other wx (w.heap.size + 1 + 1) (.string c.chain) (.int .i64 c.trust) (.bool x) (.slice o9 n9 m9)
          have hne : gh ≠ w.heap.size + 1 + 1 := by have := HRZ6.out.lt; omega
          have r1 : Row (set4 wx (w.heap.size + 1 + 1) (.string c.chain) (.int .i64 c.trust) (.bool x) (.slice o9 n9 m9)) w.heap.size 59 [.string c.chain, .int .i64 c.trust, .bool false, .slice oa n ca] := by
            have := HRC7.out.below hx HRC7.out.lt
            unfold Row at *
            rw [ho _ (by omega)]
            exact this
          have r2 : Row (set4 wx (w.heap.size + 1 + 1) (.string c.chain) (.int .i64 c.trust) (.bool x) (.slice o9 n9 m9)) gh 25 [.string u.sg.hd.chain, .int .i64 u.sg.hd.height, .int .i64 u.sg.hd.time, .slice o1 u.sg.hd.root.length c1, .slice o2 u.sg.hd.vals.length c2, .slice o3 u.sg.hd.next.length c3] := by
            have := HRH7.out.below hx HRH7.out.lt
            unfold Row at *
            rw [ho _ hne]
            exact this
          exact ⟨⟨⟨(r1).cell 0, (r1).cell 1⟩, ⟨(r1).cell 2, (r1).cell 3⟩⟩, ⟨⟨(r2).cell 1, (r2).cell 2⟩, ⟨(r2).cell 3, (r2).cell 5⟩⟩⟩)
        have HBD8 := hid (show Below w7.heap.size w7 w7.drew from (Below.refl _ _).drew)
        have HBWD := hid (HBW7.out.trans (HBD8.out.mono HBW7.out.size))
        have t0 := HBC8.out w7 (Below.refl _ _)
        have t1 := HBC8.out _ HBD8.out
        have HW7 := hid hw7
        have HGH := hid hgh
        obtain ⟨⟨i0, i1, i2, i3, i4⟩, i5, i6, i7, i8, i9⟩ := HRU6.out.ten
        clear hgh hw7 hb7
        go_wp2_with fail
        rw [HW7.out, HGH.out]
        clear i0 i1 i2 i3 i4 i5 i6 i7 i8 i9
        go_region_held3 (fun W => (((W.cell? ⟨w.heap.size, 0, none⟩ = some (.string c.chain)) ∧ (W.cell? ⟨w.heap.size, 1, none⟩ = some (.int .i64 c.trust))) ∧ ((W.cell? ⟨w.heap.size, 2, none⟩ = some (.bool false)) ∧ (W.cell? ⟨w.heap.size, 3, none⟩ = some (.slice oa n ca)))) ∧ (((W.cell? ⟨gh, 1, none⟩ = some (.int .i64 u.sg.hd.height)) ∧ (W.cell? ⟨gh, 2, none⟩ = some (.int .i64 u.sg.hd.time))) ∧ ((W.cell? ⟨gh, 3, none⟩ = some (.slice o1 u.sg.hd.root.length c1)) ∧ (W.cell? ⟨gh, 5, none⟩ = some (.slice o3 u.sg.hd.next.length c3))))) (first | assumption) (first
          | (go_at_call 87; refine (HCP.out _ HBWD.out).mono ?_; rintro e w9 ⟨hb9, o8, m8, ps, rfl, hown9, hps⟩; have HB9 := hid (HBD8.out.trans hb9); have HBW9 := hid (HBW7.out.trans (HB9.out.mono HBW7.out.size)); have t9 := HBC8.out _ HB9.out; have HO9 := hid hown9; have HPS := hid hps; clear hb9 hown9 hps)
          | (go_at_call 88; refine (HCK.out _ HBW9.out).mono ?_; rintro e w10 ⟨hb10, p1, d1, p2, d2, rfl, hx1, hx2⟩; have HB10 := hid (HB9.out.trans (hb10.mono HB9.out.size)); have HBW10 := hid (HBW7.out.trans (HB10.out.mono HBW7.out.size)); have t10 := HBC8.out _ HB10.out; have HO10 := hid (show OwnKn w10 w7.heap.size (.slice o8 ps.length m8) ps from HO9.out.below hb10); have HX1 := hid (hx1.mono HB9.out.size); have HX2 := hid (hx2.mono HB9.out.size); clear hb10 hx1 hx2)
          | (go_at_call 86; refine (HLN.out _ w7.heap.size o8 m8 ps _ _ HPS.out HO10.out HX1.out HX2.out HB10.out.size).mono ?_; rintro e w11 ⟨hb11, o9, n9, m9, rfl, hkn11⟩; have HB11 := hid (HB10.out.trans hb11); have HBW11 := hid (HBW7.out.trans (HB11.out.mono HBW7.out.size)); have t11 := HBC8.out _ HB11.out; have t12 : (((((((w11.setCell ⟨w.heap.size + 1 + 1, 0, none⟩ (.string c.chain)).setCell ⟨w.heap.size + 1 + 1, 1, none⟩ (.int .i64 c.trust)).setCell ⟨w.heap.size + 1 + 1, 2, none⟩ (.bool (learnC c (knOf u.sg.hd)).frozen)).setCell ⟨w.heap.size + 1 + 1, 3, none⟩ (.slice o9 n9 m9)).cell? ⟨w.heap.size, 0, none⟩ = some (.string c.chain)) ∧ (((((w11.setCell ⟨w.heap.size + 1 + 1, 0, none⟩ (.string c.chain)).setCell ⟨w.heap.size + 1 + 1, 1, none⟩ (.int .i64 c.trust)).setCell ⟨w.heap.size + 1 + 1, 2, none⟩ (.bool (learnC c (knOf u.sg.hd)).frozen)).setCell ⟨w.heap.size + 1 + 1, 3, none⟩ (.slice o9 n9 m9)).cell? ⟨w.heap.size, 1, none⟩ = some (.int .i64 c.trust))) ∧ ((((((w11.setCell ⟨w.heap.size + 1 + 1, 0, none⟩ (.string c.chain)).setCell ⟨w.heap.size + 1 + 1, 1, none⟩ (.int .i64 c.trust)).setCell ⟨w.heap.size + 1 + 1, 2, none⟩ (.bool (learnC c (knOf u.sg.hd)).frozen)).setCell ⟨w.heap.size + 1 + 1, 3, none⟩ (.slice o9 n9 m9)).cell? ⟨w.heap.size, 2, none⟩ = some (.bool false)) ∧ (((((w11.setCell ⟨w.heap.size + 1 + 1, 0, none⟩ (.string c.chain)).setCell ⟨w.heap.size + 1 + 1, 1, none⟩ (.int .i64 c.trust)).setCell ⟨w.heap.size + 1 + 1, 2, none⟩ (.bool (learnC c (knOf u.sg.hd)).frozen)).setCell ⟨w.heap.size + 1 + 1, 3, none⟩ (.slice o9 n9 m9)).cell? ⟨w.heap.size, 3, none⟩ = some (.slice oa n ca)))) ∧ (((((((w11.setCell ⟨w.heap.size + 1 + 1, 0, none⟩ (.string c.chain)).setCell ⟨w.heap.size + 1 + 1, 1, none⟩ (.int .i64 c.trust)).setCell ⟨w.heap.size + 1 + 1, 2, none⟩ (.bool (learnC c (knOf u.sg.hd)).frozen)).setCell ⟨w.heap.size + 1 + 1, 3, none⟩ (.slice o9 n9 m9)).cell? ⟨gh, 1, none⟩ = some (.int .i64 u.sg.hd.height)) ∧ (((((w11.setCell ⟨w.heap.size + 1 + 1, 0, none⟩ (.string c.chain)).setCell ⟨w.heap.size + 1 + 1, 1, none⟩ (.int .i64 c.trust)).setCell ⟨w.heap.size + 1 + 1, 2, none⟩ (.bool (learnC c (knOf u.sg.hd)).frozen)).setCell ⟨w.heap.size + 1 + 1, 3, none⟩ (.slice o9 n9 m9)).cell? ⟨gh, 2, none⟩ = some (.int .i64 u.sg.hd.time))) ∧ ((((((w11.setCell ⟨w.heap.size + 1 + 1, 0, none⟩ (.string c.chain)).setCell ⟨w.heap.size + 1 + 1, 1, none⟩ (.int .i64 c.trust)).setCell ⟨w.heap.size + 1 + 1, 2, none⟩ (.bool (learnC c (knOf u.sg.hd)).frozen)).setCell ⟨w.heap.size + 1 + 1, 3, none⟩ (.slice o9 n9 m9)).cell? ⟨gh, 3, none⟩ = some (.slice o1 u.sg.hd.root.length c1)) ∧ (((((w11.setCell ⟨w.heap.size + 1 + 1, 0, none⟩ (.string c.chain)).setCell ⟨w.heap.size + 1 + 1, 1, none⟩ (.int .i64 c.trust)).setCell ⟨w.heap.size + 1 + 1, 2, none⟩ (.bool (learnC c (knOf u.sg.hd)).frozen)).setCell ⟨w.heap.size + 1 + 1, 3, none⟩ (.slice o9 n9 m9)).cell? ⟨gh, 5, none⟩ = some (.slice o3 u.sg.hd.next.length c3)))) := HBZ8.out w11 (learnC c (knOf u.sg.hd)).frozen o9 n9 m9 HB11.out; have HKN11 := hid hkn11; have HRZ11 := hid (HRZ7.out.below HB11.out HRZ7.out.lt); obtain ⟨⟨x0, x1, x2, x3⟩, z0, z1, z2, z3⟩ := HRZ11.out.four; clear hb11 hkn11))
        all_goals
          clear t0 t1 t9 t10 t11 t12
          go_wp2
          have hrz := set4_row HRZ11.out (.string c.chain) (.int .i64 c.trust) (.bool (learnC c (knOf u.sg.hd)).frozen) (.slice o9 n9 m9)
          obtain ⟨⟨u0, u1, u2, u3⟩, _⟩ := hrz.four
          have hbz := set4_below HBW11.out (show w.heap.size ≤ w.heap.size + 1 + 1 by omega) (.string c.chain) (.int .i64 c.trust) (.bool (learnC c (knOf u.sg.hd)).frozen) (.slice o9 n9 m9)
          have hkz := (HKN11.out.cl HRZ11.out (set4_other w11 (w.heap.size + 1 + 1) (.string c.chain) (.int .i64 c.trust) (.bool (learnC c (knOf u.sg.hd)).frozen) (.slice o9 n9 m9))).mono (Nat.le_of_eq (set4_size w11 (w.heap.size + 1 + 1) (.string c.chain) (.int .i64 c.trust) (.bool (learnC c (knOf u.sg.hd)).frozen) (.slice o9 n9 m9)).symm)
          unfold set4 at u0 u1 u2 u3
          refine bodyPost_ret (v := .tuple #[.agg #[.string c.chain, .int .i64 c.trust, .bool (learnC c (knOf u.sg.hd)).frozen, .slice o9 n9 m9], .int .i64 0]) (by simp [results, Tryd.results38, go_sem, u0, u1, u2, u3]) rfl ⟨hbz, o9, n9, m9, ?_⟩
          rw [HFC.out, HFE0.out, learn_same.1, learn_same.2]
          exact ⟨rfl, hkz⟩
      · have HFC := hid (followC_no (c := c) (u := u) (now := now) (by rw [HFE.out]; exact hbl))
        have e1 : (believeN c u now != 0) = true := by simpa using hbl
        clear hbl
        generalize believeN c u now = z at *
        obtain ⟨⟨x0, x1, x2, x3⟩, z0, z1, z2, z3⟩ := HRZ6.out.four
        go_wp2
        have hrz := set4_row HRZ6.out (.string ⟨#[]⟩) (.int .i64 0) (.bool false) (.slice none 0 0)
        obtain ⟨⟨u0, u1, u2, u3⟩, _⟩ := hrz.four
        have hbz := set4_below HBW6.out (show w.heap.size ≤ w.heap.size + 1 + 1 by omega) (.string ⟨#[]⟩) (.int .i64 0) (.bool false) (.slice none 0 0)
        unfold set4 at u0 u1 u2 u3
        refine bodyPost_ret (v := .tuple #[.agg #[.string ⟨#[]⟩, .int .i64 0, .bool false, .slice none 0 0], .int .i64 z]) (by simp [results, Tryd.results38, go_sem, u0, u1, u2, u3]) rfl ⟨hbz, none, 0, 0, ?_⟩
        rw [HFC.out, HFE.out]
        exact ⟨rfl, Knowns.nil _ _⟩
  · have HFE := hid (followE_ask (u := u) hask)
    have HFC := hid (followC_no (c := c) (u := u) (now := now) (by rw [HFE.out]; exact hask))
    have e1 : (askedN c now != 0) = true := by simpa using hask
    clear hask
    generalize askedN c now = z at *
    go_enter Tryd.func38, Tryd.ntmps38
    go_wp2_with fail
    rw [HW0.out]
    refine HAS.out.mono ?_
    rintro e w1 ⟨rfl, hb1⟩
    have HB1 := hid (HB0.out.trans (hb1.mono HB0.out.size))
    have HRZ1 := hid (HRZ0.out.below hb1 HRZ0.out.lt)
    obtain ⟨⟨x0, x1, x2, x3⟩, z0, z1, z2, z3⟩ := HRZ1.out.four
    clear hb1 a0 a1 a2 a3
    go_wp2
    have hrz := set4_row HRZ1.out (.string ⟨#[]⟩) (.int .i64 0) (.bool false) (.slice none 0 0)
    obtain ⟨⟨u0, u1, u2, u3⟩, _⟩ := hrz.four
    have hbz := set4_below HB1.out (show w.heap.size ≤ w.heap.size + 1 + 1 by omega) (.string ⟨#[]⟩) (.int .i64 0) (.bool false) (.slice none 0 0)
    unfold set4 at u0 u1 u2 u3
    refine bodyPost_ret (v := .tuple #[.agg #[.string ⟨#[]⟩, .int .i64 0, .bool false, .slice none 0 0], .int .i64 z]) (by simp [results, Tryd.results38, go_sem, u0, u1, u2, u3]) rfl ⟨hbz, none, 0, 0, ?_⟩
    rw [HFC.out, HFE.out]
    exact ⟨rfl, Knowns.nil _ _⟩
end Go.Proofs.YtfpngilmdgeikaaDoor
