/-
  The document's Book: connections.
-/
import Derived.Test.YtooemgkjkngpcaaGreatDoorTaSt8RSet
import Derived.Test.YtooemgkjkngpcaaGreatDoorTaRef1All
import Derived.Maps.RangeWalk
import Derived.BigQuiet
import Derived.Deep.RegionHeld3
import Derived.Deep.RegionWith
namespace Go.Proofs.YtooemgkjkngpcaaGreatDoor
open Go.RowKit

/-- what an element reads as: itself -/
def heldR (v : Value) : Option (DataW Value × List MemPlace) := some (.held v, [])
theorem strLaw : Go.Maps.Keyed Tryz.prog 9 := Go.Maps.string_keyed Tryz.underlying9
def kS : Lit := .string [115, 101, 110, 116]
def kG : Lit := .string [103, 111, 116]
def kA : Lit := .string [97, 99, 107]
def wS : ByteArray := ⟨#[115, 101, 110, 116]⟩
def wG : ByteArray := ⟨#[103, 111, 116]⟩
def wA : ByteArray := ⟨#[97, 99, 107]⟩
theorem isS : WideAt.IsKeyLit kS := trivial
theorem isG : WideAt.IsKeyLit kG := trivial
theorem isA : WideAt.IsKeyLit kA := trivial
theorem neSG : kS ≠ kG := by unfold kS kG; intro e; injection e with e; exact absurd e (by decide)
theorem neSA : kS ≠ kA := by unfold kS kA; intro e; injection e with e; exact absurd e (by decide)
theorem neGA : kG ≠ kA := by unfold kG kA; intro e; injection e with e; exact absurd e (by decide)
theorem keyS : keyOf Tryz.prog 9 (.string wS) = some kS := Go.WideMaps.keyOf_string_mk Tryz.underlying9 (by decide)
theorem keyG : keyOf Tryz.prog 9 (.string wG) = some kG := Go.WideMaps.keyOf_string_mk Tryz.underlying9 (by decide)
theorem keyA : keyOf Tryz.prog 9 (.string wA) = some kA := Go.WideMaps.keyOf_string_mk Tryz.underlying9 (by decide)
theorem key_inv {key : Value} {l : List UInt8} (h : keyOf Tryz.prog 9 key = some (.string l)) : key = .string ⟨l.toArray⟩ := by
  cases key <;> simp [keyOf, Tryz.underlying9, mapKey] at h
  obtain ⟨_, rfl⟩ := h
  rfl
def threeD (v4 v5 v6 : Value) : DataW Value := (((DataW.map []).put kS (.held v4)).put kG (.held v5)).put kA (.held v6)
theorem three_has {v4 v5 v6 : Value} {kl : Lit} (h : Maps.has (threeD v4 v5 v6) kl = true) : kl = kS ∨ kl = kG ∨ kl = kA := by
  by_cases h1 : kl = kA
  · exact .inr (.inr h1)
  by_cases h2 : kl = kG
  · exact .inr (.inl h2)
  by_cases h3 : kl = kS
  · exact .inl h3
  unfold threeD at h
  rw [Maps.has_put_other h1, Maps.has_put_other h2, Maps.has_put_other h3] at h
  cases h
theorem three_S (v4 v5 v6 : Value) : Maps.has (threeD v4 v5 v6) kS = true := by
  unfold threeD
  rw [Maps.has_put_other neSA, Maps.has_put_other neSG]
  exact Maps.has_put_same Maps.isMap_empty isS _
theorem three_G (v4 v5 v6 : Value) : Maps.has (threeD v4 v5 v6) kG = true := by
  unfold threeD
  rw [Maps.has_put_other neGA]
  exact Maps.has_put_same (Maps.isMap_empty.put _ _) isG _
theorem three_A (v4 v5 v6 : Value) : Maps.has (threeD v4 v5 v6) kA = true := Maps.has_put_same ((Maps.isMap_empty.put _ _).put _ _) isA _
theorem at_S (v4 v5 v6 : Value) (z : DataW Value) : (threeD v4 v5 v6).atKey kS z = .held v4 := by
  unfold threeD
  rw [Maps.atKey_put_other neSA, Maps.atKey_put_other neSG]
  exact Maps.atKey_put_same Maps.isMap_empty isS _ _
theorem at_G (v4 v5 v6 : Value) (z : DataW Value) : (threeD v4 v5 v6).atKey kG z = .held v5 := by
  unfold threeD
  rw [Maps.atKey_put_other neGA]
  exact Maps.atKey_put_same (Maps.isMap_empty.put _ _) isG _ _
theorem at_A (v4 v5 v6 : Value) (z : DataW Value) : (threeD v4 v5 v6).atKey kA z = .held v6 := Maps.atKey_put_same ((Maps.isMap_empty.put _ _).put _ _) isA _ _
/-- what of the marks is in, by which words are still to come -/
def comeL (s : St) (left : Lit → Bool) : List Dg := (if left kS = true then [] else s.sent.map (entMk kwSent)) ++ ((if left kG = true then [] else s.got.map (entMk kwGot)) ++ (if left kA = true then [] else s.acks.map (entMk kwAck)))
theorem setAll_len : ∀ (l : List Dg) (out : List Pr), (setAll l out).length ≤ out.length + l.length
  | [], out => by simp [setAll]
  | d :: l, out => by
    rw [setAll]
    have h1 := setAll_len l (setP (prOf d) out)
    have h2 : (setP (prOf d) out).length ≤ out.length + 1 := by rw [length_set]; have := List.length_filter_le (fun q : Pr => q.key != (prOf d).key) out; unfold dropK; first | omega | (have := List.length_filter_le (fun q : Pr => decide (q.key ≠ (prOf d).key)) out; omega) | exact Nat.succ_le_succ (List.length_filter_le _ _)
    rw [List.length_cons]
    omega
theorem setAll_one (l : List Dg) (d : Dg) : setAll (l ++ [d]) [] = setP (prOf d) (setAll l []) := by rw [setAll_append]; rfl
/-- whatever the order, the book is the state's -/
theorem setAll_book {s : St} (h : Right s) {L : List Dg} (hp : L.Perm (entries s)) : setAll L [] = bookS s := by
  have ha : ApartD L := (hp.pairwise_iff (fun {_ _} hne => Ne.symm hne)).2 (entries_apart h)
  obtain ⟨h1, h2⟩ := setAll_perm L [] List.Pairwise.nil ha (fun _ _ _ hq => by cases hq)
  obtain ⟨_, h4, h5⟩ := book_of h
  refine sorted_perm h2 h5 (h1.trans ?_)
  rw [List.append_nil]
  exact (hp.map prOf).trans h4.symm
/-- .. where an iterator has stepped on, too -/
theorem iter_cell {w w' : World} {r : Nat} {x : Option Nat} {since : Nat} {seen : Array Nat} {c0 : Nat} (hr : w.heap[r]? = some (.mapIter x since seen c0)) (hg : w.grownBy w' (some r)) {p : Addr} {v : Value} (h : w.cell? p = some v) : w'.cell? p = some v := by
  by_cases e : p.block = r
  · simp [World.cell?, e, hr] at h
  · have hlt : p.block < w.heap.size := by
      cases hb : w.heap[p.block]? with
      | none => simp [World.cell?, hb] at h
      | some o => exact (Array.getElem?_eq_some_iff.1 hb).1
    rw [World.cell?_of_block (hg.block p.block hlt (by simpa using e))]
    exact h
theorem iter_bytes {w w' : World} {r : Nat} {x : Option Nat} {since : Nat} {seen : Array Nat} {c0 : Nat} (hr : w.heap[r]? = some (.mapIter x since seen c0)) (hg : w.grownBy w' (some r)) {N : Nat} {sv : Value} {l : List (BitVec 8)} (h : Bytes w N sv l) : Bytes w' N sv l := by
  rcases h with h | h | ⟨b, off, cap, h1, h2, h3⟩
  · exact .inl h
  · exact .inr (.inl h)
  · exact .inr (.inr ⟨b, off, cap, h1, h2, fun i hi => ⟨(h3 i hi).1, iter_cell hr hg (h3 i hi).2⟩⟩)
theorem Acc.iter {w w' : World} {r : Nat} {x : Option Nat} {since : Nat} {seen : Array Nat} {c0 : Nat} (hr : w.heap[r]? = some (.mapIter x since seen c0)) (hg : w.grownBy w' (some r)) {v : Value} {l : List Pr} (h : Acc w v l) : Acc w' v l := by
  obtain ⟨ps, h1, h2, h3, h4⟩ := h
  refine ⟨ps, ?_, fun q hq => ⟨(iter_bytes hr hg (h2 q hq).1).mono hg.size, (iter_bytes hr hg (h2 q hq).2).mono hg.size⟩, h3, h4⟩
  refine World.ownsRow.kept h1 hg ?_
  rcases h1.2 with ⟨rfl, _⟩ | ⟨g, c, cur, rfl, _, h8, _⟩
  · exact .inl rfl
  · refine .inr fun e => ?_
    obtain rfl : g = r := by simpa [Value.ownBlock] using e
    rw [hr] at h8
    cases h8
theorem ranges_iter {w : World} {b r n cnt : Nat} {D : DataW Value} {left : Lit → Bool} (h : w.ranges Tryz.prog 9 heldR b r n D left cnt) : ∃ x since seen c0, w.heap[r]? = some (.mapIter x since seen c0) := by
  obtain ⟨_, _, since, seen, c0, _, _, _, _, hr, _⟩ := h
  exact ⟨_, since, seen, c0, hr⟩
end Go.Proofs.YtooemgkjkngpcaaGreatDoor
namespace Go.Proofs.YtooemgkjkngpcaaGreatDoor
open Go.RowKit

theorem zip_at {α : Type} (l : List α) (k : Nat) (x : α) (h : l[k]? = some x) : l.zipIdx[k]? = some (x, k) := by rw [List.getElem?_zipIdx, h]; simp
theorem take_next {α : Type} (l : List α) (k : Nat) (x : α) (h : l[k]? = some x) : l.take (k + 1) = l.take k ++ [x] := by rw [List.take_add_one, h]; rfl
set_option maxRecDepth 1000000 in
set_option maxHeartbeats 8000000 in
theorem bkConn_block {s0 s1 s2 s3 s4 s6 s7 s8 s9 s10 s11 s12 s13 s14 s15 s16 s17 s18 s19 s23 s24 s25 s26 s27 s28 s29 s30 s31 s32 s33 s34 s35 s36 s37 s38 s39 s40 s41 s42 s43 s44 s45 s46 s47 s48 s49 s50 s51 s52 s53 s54 s55 s56 s57 s58 s59 s60 s61 s62 s63 s64 s65 s66 s67 s68 s69 s70 s71 s72 s73 s74 s75 s76 s77 s78 s79 s80 s81 s82 s83 s84 s85 s86 s87 s88 s89 s90 s91 s92 s93 s94 s95 s96 s97 : Value} (l : List Cn) (oa : Option Addr) (ca N : Nat) (w : World) (hN : N ≤ w.heap.size) (hv : Hid (Many CnR 4 w N (.slice oa l.length ca) l)) (hl : l.length ≤ 8) (hC : Hid (∀ c ∈ l, wrongCn c = 0)) (hE : Hid (∀ d ∈ l.zipIdx.map entCn, DgOk d)) (Q : Exit → Act → World → Prop)
    (hGo : Hid (∀ (u5 u6 u7 u22 u23 u24 u25 u26 u27 u28 u29 u30 u31 u32 u33 u34 u35 : Value) (w' : World), Below w.heap.size w w' → Acc w' u5 (setAll (l.zipIdx.map entCn) []) → Q .normal ⟨#[s0, s1, s2, s3, s4, u5, u6, u7, s8, s9, s10, s11, s12, s13, s14, s15, s16, s17, s18, s19, .slice oa l.length ca, .int .i64 (l.length : Int), u22, u23, u24, u25, u26, u27, u28, u29, u30, u31, u32, u33, u34, u35, s36, s37, s38, s39, s40, s41, s42, s43, s44, s45, s46, s47, s48, s49, s50, s51, s52, s53, s54, s55, s56, s57, s58, s59, s60, s61, s62, s63, s64, s65, s66, s67, s68, s69, s70, s71, s72, s73, s74, s75, s76, s77, s78, s79, s80, s81, s82, s83, s84, s85, s86, s87, s88, s89, s90, s91, s92, s93, s94, s95, s96, s97], []⟩ w')) :
    Code.wp Tryz.prog ((Tryz.f10.body.bind (inBlock 0)).getD .skip) (Exit.inBlock 0 Q) ⟨#[s0, s1, s2, s3, s4, .slice none 0 0, s6, s7, s8, s9, s10, s11, s12, s13, s14, s15, s16, s17, s18, s19, .slice oa l.length ca, .int .i64 (l.length : Int), .int .i64 0, s23, s24, s25, s26, s27, s28, s29, s30, s31, s32, s33, s34, s35, s36, s37, s38, s39, s40, s41, s42, s43, s44, s45, s46, s47, s48, s49, s50, s51, s52, s53, s54, s55, s56, s57, s58, s59, s60, s61, s62, s63, s64, s65, s66, s67, s68, s69, s70, s71, s72, s73, s74, s75, s76, s77, s78, s79, s80, s81, s82, s83, s84, s85, s86, s87, s88, s89, s90, s91, s92, s93, s94, s95, s96, s97], []⟩ w := by
  conv => arg 2; whnf
  conv => arg 4; dsimp only
  generalize hn : l.length = n at *
  have HN := hid hn
  clear hn
  go_loopw [5, 22] (fun v i wr => ∃ k : Nat, k ≤ n ∧ i = .int .i64 (k : Int) ∧ Hid (Below w.heap.size w wr ∧ Acc wr v (setAll ((l.zipIdx.take k).map entCn) []))) (fun _ i _ => n - (intOf i).toNat)
  case atStart => exact ⟨0, by omega, rfl, hid ⟨Below.refl _ _, Acc.nil _⟩⟩
  case round =>
    obtain ⟨k, hk, rfl, HT⟩ := hrel
    have HBW := hid HT.out.1
    have HAC := hid HT.out.2
    clear HT
    have hszw := HBW.out.size
    by_cases hlt : k < n
    · obtain ⟨x, hx⟩ : ∃ x, l[k]? = some x := ⟨l[k]'(by rw [HN.out]; exact hlt), List.getElem?_eq_getElem _⟩
      have hlt' : (k : Int) < (n : Int) := by omega
      obtain ⟨b, o, rfl, hcells⟩ := hv.out.spot (by omega)
      obtain ⟨hbN, r, hr, hc⟩ := hcells k x hx
      obtain rfl := hr
      have hbl : b < w.heap.size := by omega
      have f0 := (HBW.out.cell (p := ⟨b, o + k * 4 + 0, none⟩) hbl).trans (hc 0 _ rfl)
      have f1 := (HBW.out.cell (p := ⟨b, o + k * 4 + 1, none⟩) hbl).trans (hc 1 _ rfl)
      have f2 := (HBW.out.cell (p := ⟨b, o + k * 4 + 2, none⟩) hbl).trans (hc 2 _ rfl)
      have f3 := (HBW.out.cell (p := ⟨b, o + k * 4 + 3, none⟩) hbl).trans (hc 3 _ rfl)
      simp only [Nat.add_zero] at f0
      obtain ⟨w2, hw2⟩ : ∃ w2, wr.alloc (.cells #[.int .i64 x.state, .int .i64 x.client, .int .i64 x.oclient, .int .i64 x.oconn] 58) = w2 := ⟨_, rfl⟩
      have hbr2 : Below wr.heap.size wr w2 := by rw [← hw2]; exact (Below.refl _ _).alloc (Nat.le_refl _) _
      have HB2 := hid (HBW.out.trans (hbr2.mono hszw))
      have HR2 := hid (show Row w2 wr.heap.size 58 [.int .i64 x.state, .int .i64 x.client, .int .i64 x.oclient, .int .i64 x.oconn] by rw [← hw2]; exact Row.new _ _ _)
      have HA2 := hid (HAC.out.below hbr2)
      have HW2 := hid hw2
      have hz := zip_at l k x hx
      have HNX := hid (show setAll ((l.zipIdx.take (k + 1)).map entCn) [] = setP ⟨keyL kwConn [k], connB x⟩ (setAll ((l.zipIdx.take k).map entCn) []) by rw [take_next _ k _ hz, List.map_append, List.map_cons, List.map_nil, setAll_one]; rfl)
      have hlen : (setAll ((l.zipIdx.take k).map entCn) []).length ≤ 1000 := by
        have := setAll_len ((l.zipIdx.take k).map entCn) []
        rw [List.length_map, List.length_take, List.length_nil] at this
        omega
      have hfit : (keyL kwConn [k]).length ≤ 140737488351232 ∧ (connB x).length ≤ 140737488351232 := by
        have := hE.out _ (List.mem_map_of_mem (f := entCn) (List.mem_of_getElem? hz))
        have h1 := this.1
        have h2 := this.2.1
        simp only [entCn] at h1 h2
        omega
      have HC := hid (hC.out x (List.mem_of_getElem? hx))
      have hk1 : k ≤ 1000 := by omega
      clear hbr2 hw2 hcells hc hx hz
      go_upto_region 8 with fail
      rw [HW2.out]
      refine bkConnRegion _ _ x k HA2 hlen HR2 HC hk1 hfit _ (hid ?_)
      intro σ kv vv v3 w3 hA3 hb3
      have HB3 := hid (HB2.out.trans (hb3.mono HB2.out.size))
      have HA3 := hid hA3
      clear hA3 hb3 hlen hfit
      go_wp2
      go_roundw
      case rel => exact ⟨k + 1, by omega, by go_num, hid ⟨HB3.out, by rw [HNX.out]; exact HA3.out⟩⟩
      case measure => simp [intOf]; omega
    · have hge : decide ((k : Int) < (n : Int)) = false := by simp; omega
      have HE := hid (show setAll ((l.zipIdx.take k).map entCn) [] = setAll (l.zipIdx.map entCn) [] by rw [List.take_of_length_le (by first | (rw [HN.out]; omega) | (rw [List.length_zipIdx, HN.out]; omega))])
      go_wp2
      apply hGo.out
      · exact HBW.out
      · rw [← HE.out]; exact HAC.out
end Go.Proofs.YtooemgkjkngpcaaGreatDoor
