/-
  What the document's Sign answers: what keeps a header from being one of these validators; else the header, the validators, and the votes of those whose seeds are there.
  What the document's Sign answers.
-/
import Derived.Test.YtfpngilmdgeikaaDoorHdSignAll
import Derived.Test.YtfpngilmdgeikaaDoorHdRBoth
import Derived.Test.YtfpngilmdgeikaaDoorHdRDig
import Derived.Test.YtfpngilmdgeikaaDoorHdRBytes
import Derived.Test.YtfpngilmdgeikaaDoorSameB
import Derived.Test.YtfpngilmdgeikaaDoorRef2Sign
namespace Go.Proofs.YtfpngilmdgeikaaDoor
open Go.RowKit

/-- a row of votes that a call owns -/
def OwnVt (w : World) (base : Nat) (v : Value) (ts : List Vt) : Prop := w.ownsRow base 51 3 v ts.length (ts.flatMap vtRow)
theorem OwnVt.below {w w' : World} {base : Nat} {v : Value} {ts : List Vt} (h : OwnVt w base v ts) (hg : Below w.heap.size w w') : OwnVt w' base v ts := ownsRow_below h hg
theorem OwnVt.votes {w : World} {base : Nat} {v : Value} {ts : List Vt} (h : OwnVt w base v ts) : Votes w w.heap.size v ts := by
  unfold OwnVt at h
  rw [show ts.length = (ts.map vtRow).length by simp] at h
  exact ownsRow_recs h vtRow_len
theorem OwnVt.shape {w : World} {base : Nat} {v : Value} {ts : List Vt} (h : OwnVt w base v ts) : ∃ oa cap, v = .slice oa ts.length cap := by
  obtain ⟨_, h2⟩ := h
  rcases h2 with ⟨rfl, h3⟩ | ⟨g, cap, cur, rfl, _⟩
  · exact ⟨none, 0, by rw [h3]⟩
  · exact ⟨_, cap, rfl⟩
/-- a row of another type is as it was, when what is owned grows -/
theorem Row.past {w w' : World} {g base e size n : Nat} {t : TypeId} {cs xs : List Value} {v : Value} (h : Row w g t cs) (ho : w.ownsRow base e size v n xs) (ht : t ≠ e) (hg : w.grownBy w' v.ownBlock) : Row w' g t cs := by
  refine h.grown hg ?_
  intro he
  obtain ⟨_, h4⟩ := ho
  rcases h4 with ⟨rfl, _⟩ | ⟨b, c, cur, rfl, _, hb, _⟩
  · simp [Value.ownBlock] at he
  · obtain rfl : g = b := by simpa [Value.ownBlock] using he
    unfold Row at h
    rw [hb] at h
    simp at h
    exact ht h.2.symm
theorem OwnVt.keep {w w' : World} {base : Nat} {v : Value} {ts : List Vt} (h : OwnVt w base v ts) {g : Nat} {t : TypeId} {cs : List Value} (hr : Row w g t cs) (ht : t ≠ 51) (hk : ∀ k, k ≠ g → w'.heap[k]? = w.heap[k]?) : OwnVt w' base v ts := by
  obtain ⟨h1, h2⟩ := h
  refine ⟨h1, ?_⟩
  rcases h2 with h2 | ⟨b, cap, cur, h3, h4, h5, h6⟩
  · exact .inl h2
  · have hb : b ≠ g := by
      rintro rfl
      unfold Row at hr
      rw [hr] at h5
      simp at h5
      exact ht h5.2
    exact .inr ⟨b, cap, cur, h3, h4, (hk b hb).trans h5, h6⟩
theorem wpList_append_vt {ops : Array Oper} {rest : List Oper} {o : Oper} {a : Act} {wr : World} {Q : Exit → Act → World → Prop} (hgd : o.guard = none) (s x : Operand)
    (ho : o.op = .call { callee := .builtin .append, args := #[s, x], argTypes := #[27, 27] })
    (base : Nat) (v : Value) (ts : List Vt) (hs : a.eval s = v) (hown : OwnVt wr base v ts) (t : Vt) (hx : a.eval x = .slice (some ⟨wr.heap.size, 0, none⟩) 1 1) (hl : ts.length ≤ 1000) (hbase : base ≤ wr.heap.size)
    (h : ∀ v' w', OwnVt w' base v' (ts ++ [t]) → (wr.alloc (.cells #[.bool t.is, .int .u64 (t.r : Int), .int .u64 (t.s : Int)] 51)).grownBy w' v.ownBlock → Below base wr w' → wpList Tryd.prog ops Q rest (a.put o.dst v') w') :
    wpList Tryd.prog ops Q (o :: rest) a (wr.alloc (.cells #[.bool t.is, .int .u64 (t.r : Int), .int .u64 (t.s : Int)] 51)) := by
  obtain ⟨i0, hi0, hz0, hz1, hz2⟩ := info_parts info_vote
  have hbe : Below wr.heap.size wr (wr.alloc (.cells #[.bool t.is, .int .u64 (t.r : Int), .int .u64 (t.s : Int)] 51)) := (Below.refl _ _).alloc (Nat.le_refl _) _
  refine wpList_append_own _ hgd s x 27 ho base 51 i0 _ 3 24 Tryd.underlying27 hi0 hz0 hz1 hz2 rfl (by decide) v ts.length (ts.flatMap vtRow) hs (ownsRow_below hown hbe) ⟨wr.heap.size, 0, none⟩ 1 1
    (vtRow t) hx rfl (cells_new _ _ _) (by simp [vtRow, Value.oneCell']) (by unfold maxLen; omega) (by omega) (Nat.le_trans hbase hbe.size) ?_
  intro v' w' h1 h2 _
  refine h v' w' ?_ h2 ((hbe.mono hbase).trans ((Below.refl base _).grown h2 (Nat.le_trans hbase hbe.size) (fun k hk => ((ownsRow_below hown hbe).lt k hk).1)))
  unfold OwnVt
  rw [List.length_append, List.flatMap_append]
  have e : [t].flatMap vtRow = vtRow t := by simp
  rw [e]
  exact h1
theorem voteOf_nil (m : List (BitVec 8)) (key : Nat) : voteOf [] m key = Vt.none := rfl
theorem voteOf_take (seeds : List (List (BitVec 8))) (m : List (BitVec 8)) (key j : Nat) (s : List (BitVec 8)) (h : seeds[j]? = some s) : voteOf (seeds.take (j + 1)) m key = if keyN s = key then ⟨true, sealR s m, sealS s m⟩ else voteOf (seeds.take j) m key := by
  obtain ⟨hj, rfl⟩ := List.getElem?_eq_some_iff.1 h
  unfold voteOf lastSeed
  rw [List.take_succ_eq_append_getElem hj, List.reverse_append, List.reverse_singleton, List.singleton_append, List.find?_cons]
  by_cases e : keyN seeds[j] = key
  · simp [e]
  · simp [e]
theorem votesOf_take (seeds : List (List (BitVec 8))) (m : List (BitVec 8)) (l : List Vl) (k : Nat) (v : Vl) (h : l[k]? = some v) : votesOf seeds m (l.take (k + 1)) = votesOf seeds m (l.take k) ++ [voteOf seeds m v.key] := by
  obtain ⟨hk, rfl⟩ := List.getElem?_eq_some_iff.1 h
  unfold votesOf
  rw [List.take_succ_eq_append_getElem hk, List.map_append]
  rfl
set_option maxRecDepth 100000 in
set_option maxHeartbeats 4000000 in
theorem refTogRegion {y0 y2 y4 y5 y6 y7 y8 y9 y10 y11 y12 y13 y14 y15 y16 y17 y18 y19 y20 y21 y22 y23 y24 y25 y26 y27 y34 y35 y36 y37 y38 y39 y40 y41 y42 y43 y44 y45 y46 y47 y48 y49 y50 y51 y52 y53 y54 y55 y56 y57 y58 y59 y60 y61 y62 y63 y64 y65 y66 y67 y68 z28 z29 z30 z31 z32 z33 : Value} {g N : Nat} (h : Hd) (l : List Vl) (sv : Value) (o1 o2 o3 : Option Addr) (c1 c2 c3 : Nat) {w : World} (htab : Hid (tableAt w)) (hr : Hid (Row w g 25 [.string h.chain, .int .i64 h.height, .int .i64 h.time, .slice o1 h.root.length c1, .slice o2 h.vals.length c2, .slice o3 h.next.length c3])) (hv2 : Hid (Bytes w N (.slice o2 h.vals.length c2) h.vals)) (hlv : h.vals.length < 2305843009213693952) (hl : Hid (Vals w N sv l)) (hN : N ≤ w.heap.size) (hten : l.length ≤ 10) (hok : Hid (∀ v ∈ l, v.ok)) (Q : Exit → Act → World → Prop)
    (hQ : Hid (∀ (σ : Nat → Value) (w' : World), Below w.heap.size w w' → /-5-/ σ 5 = .bool (!decide (digV l = h.vals)) → Q .normal ⟨#[y0, sv, y2, .pointer (some ⟨g, 0, none⟩), y4, y5, y6, y7, y8, y9, y10, y11, y12, y13, y14, y15, y16, y17, y18, y19, y20, y21, y22, y23, y24, y25, y26, y27, σ 0, σ 1, σ 2, σ 3, σ 4, σ 5, y34, y35, y36, y37, y38, y39, y40, y41, y42, y43, y44, y45, y46, y47, y48, y49, y50, y51, y52, y53, y54, y55, y56, y57, y58, y59, y60, y61, y62, y63, y64, y65, y66, y67, y68], []⟩ w')) :
    Code.wp Tryd.prog (.region 7 ((Tryd.f20.body.bind (regOf 7)).getD #[]) true) Q ⟨#[y0, sv, y2, .pointer (some ⟨g, 0, none⟩), y4, y5, y6, y7, y8, y9, y10, y11, y12, y13, y14, y15, y16, y17, y18, y19, y20, y21, y22, y23, y24, y25, y26, y27, z28, z29, z30, z31, z32, z33, y34, y35, y36, y37, y38, y39, y40, y41, y42, y43, y44, y45, y46, y47, y48, y49, y50, y51, y52, y53, y54, y55, y56, y57, y58, y59, y60, y61, y62, y63, y64, y65, y66, y67, y68], []⟩ w := by
  conv => arg 2; arg 2; whnf
  conv => arg 4; dsimp only
  refine region_grows (by kernel_rfl) (fun σ => #[y0, sv, y2, .pointer (some ⟨g, 0, none⟩), y4, y5, y6, y7, y8, y9, y10, y11, y12, y13, y14, y15, y16, y17, y18, y19, y20, y21, y22, y23, y24, y25, y26, y27, σ 0, σ 1, σ 2, σ 3, σ 4, σ 5, y34, y35, y36, y37, y38, y39, y40, y41, y42, y43, y44, y45, y46, y47, y48, y49, y50, y51, y52, y53, y54, y55, y56, y57, y58, y59, y60, y61, y62, y63, y64, y65, y66, y67, y68]) (fun i => ([z28, z29, z30, z31, z32, z33] : List Value).getD i undef) rfl (fun i X W => match i with
    | 0 => X = sv
    | 1 => Bytes W W.heap.size X (digV l)
    | 2 => X = .pointer (some ⟨g, 4, none⟩)
    | 3 => X = .slice o2 h.vals.length c2
    | 4 => X = .bool (decide (digV l = h.vals))
    | 5 => X = .bool (!decide (digV l = h.vals))
    | _ => True) ?_ (by kernel_rfl) ?_ ?_
  · intro i X W W' HB H
    match i, H with
    | 0, H => exact H
    | 1, H => exact (H.below HB).mono HB.size
    | 2, H => exact H
    | 3, H => exact H
    | 4, H => exact H
    | 5, H => exact H
    | _ + 6, _ => exact trivial
  · refine ⟨?_, ?_, ?_, ?_, ?_, ?_, trivial⟩
    · -- 0: Op.move t1
      intro σ W HJ hdep
      simp [Region.binds] at hdep
      have HJ := hid HJ
      refine wpOp_plain rfl rfl ?_
      go_simp
      exact Left.mk0 (sv) (by first | rfl | simp [updF, *]) HJ.out rfl
    · -- 1: Op.call { value (Operand.func 20), args := #[t28], argTypes 
      intro σ W HJ hdep
      simp [Region.binds] at hdep
      have HJ := hid HJ
      have HD := hid (refDigestC l sv N W (htab.out.below HJ.out htab.out.lt) (hl.out.below (HJ.out.mono hN)) (Nat.le_trans hN HJ.out.size) hten hok.out)
      refine wpOp_plain rfl rfl ?_
      go_simp
      refine (HD.out).mono ?_
      rintro e w2 ⟨v, rfl, hv2, hb2⟩
      exact Left.mk v (by first | rfl | simp [updF, *]) hb2 HJ.out hv2
    · -- 2: Op.fieldAddr 25 t3 4
      intro σ W HJ hdep
      simp [Region.binds] at hdep
      have HJ := hid HJ
      refine wpOp_plain rfl rfl ?_
      go_simp
      exact Left.mk0 (.pointer (some ⟨g, 4, none⟩)) (by first | rfl | simp [updF, *]) HJ.out rfl
    · -- 3: Op.load 23 t30
      intro σ W HJ hdep
      simp [Region.binds] at hdep
      have HJ := hid HJ
      have k := (hr.out.below HJ.out hr.out.lt).cell 4
      simp at k
      refine wpOp_plain rfl rfl ?_
      go_simp
      exact Left.mk0 (.slice o2 h.vals.length c2) (by first | rfl | simp [updF, *]) HJ.out rfl
    · -- 4: Op.call { value (Operand.func 18), args := #[t29, t31], argT
      intro σ W HJ hdep
      simp [Region.binds] at hdep
      have HJ := hid HJ
      have e1 := hdep.2
      have HE := hid (sameB_any (digV l) h.vals (σ 1) (.slice o2 h.vals.length c2) W.heap.size N W hdep.1 (hv2.out.below (HJ.out.mono hN)) (by rw [digV_length]; omega) hlv)
      clear hdep
      refine wpOp_plain rfl rfl ?_
      go_simp
      refine HE.out.mono ?_
      rintro e w2 ⟨rfl, nq, rfl⟩
      exact Left.mk (.bool (decide (digV l = h.vals))) (by first | rfl | simp [updF, *]) (below_drewH W nq _) HJ.out rfl
    · -- 5: Op.unOp UnOp.not 4 t32
      intro σ W HJ hdep
      simp [Region.binds] at hdep
      have HJ := hid HJ
      refine wpOp_plain rfl rfl ?_
      go_simp
      exact Left.mk0 (.bool (!decide (digV l = h.vals))) (by first | rfl | simp [updF, *]) HJ.out rfl
  · intro σ w' hb hg
    exact hQ.out σ w' hb (by first | exact ⟨hg 5 (by decide)⟩ | exact hg 5 (by decide))
set_option maxRecDepth 100000 in
set_option maxHeartbeats 4000000 in
theorem refKeyRegion {y0 y1 y2 y3 y4 y5 y6 y7 y8 y9 y10 y11 y13 y14 y16 y17 y18 y19 y20 y21 y22 y23 y24 y25 y26 y27 y28 y29 y30 y31 y32 y33 y34 y35 y36 y37 y38 y39 y40 y41 y42 y43 y44 y45 y46 y47 y48 y49 y55 y56 y57 y58 y59 y60 y61 y62 y63 y64 y65 y66 y67 y68 z50 z51 z52 z53 z54 : Value} {gv N : Nat} (s : List (BitVec 8)) (key pw : Nat) (xv : Value) {w : World} (hr : Hid (Row w gv 45 [.int .u64 (key : Int), .int .u64 (pw : Int)])) (hx : Hid (Bytes w N xv s)) (hN : N ≤ w.heap.size) (hsl : s.length ≤ 140737488351232) (Q : Exit → Act → World → Prop)
    (hQ : Hid (∀ (σ : Nat → Value) (w' : World), Below w.heap.size w w' → /-4-/ σ 4 = .bool ((keyN s : Int) == (key : Int)) → Q .normal ⟨#[y0, y1, y2, y3, y4, y5, y6, y7, y8, y9, y10, y11, .pointer (some ⟨gv, 0, none⟩), y13, y14, xv, y16, y17, y18, y19, y20, y21, y22, y23, y24, y25, y26, y27, y28, y29, y30, y31, y32, y33, y34, y35, y36, y37, y38, y39, y40, y41, y42, y43, y44, y45, y46, y47, y48, y49, σ 0, σ 1, σ 2, σ 3, σ 4, y55, y56, y57, y58, y59, y60, y61, y62, y63, y64, y65, y66, y67, y68], []⟩ w')) :
    Code.wp Tryd.prog (.region 17 ((Tryd.f20.body.bind (regOf 17)).getD #[]) true) Q ⟨#[y0, y1, y2, y3, y4, y5, y6, y7, y8, y9, y10, y11, .pointer (some ⟨gv, 0, none⟩), y13, y14, xv, y16, y17, y18, y19, y20, y21, y22, y23, y24, y25, y26, y27, y28, y29, y30, y31, y32, y33, y34, y35, y36, y37, y38, y39, y40, y41, y42, y43, y44, y45, y46, y47, y48, y49, z50, z51, z52, z53, z54, y55, y56, y57, y58, y59, y60, y61, y62, y63, y64, y65, y66, y67, y68], []⟩ w := by
  conv => arg 2; arg 2; whnf
  conv => arg 4; dsimp only
  refine region_grows (by kernel_rfl) (fun σ => #[y0, y1, y2, y3, y4, y5, y6, y7, y8, y9, y10, y11, .pointer (some ⟨gv, 0, none⟩), y13, y14, xv, y16, y17, y18, y19, y20, y21, y22, y23, y24, y25, y26, y27, y28, y29, y30, y31, y32, y33, y34, y35, y36, y37, y38, y39, y40, y41, y42, y43, y44, y45, y46, y47, y48, y49, σ 0, σ 1, σ 2, σ 3, σ 4, y55, y56, y57, y58, y59, y60, y61, y62, y63, y64, y65, y66, y67, y68]) (fun i => ([z50, z51, z52, z53, z54] : List Value).getD i undef) rfl (fun i X W => match i with
    | 0 => X = xv
    | 1 => X = .int .u64 (keyN s : Int)
    | 2 => X = .pointer (some ⟨gv, 0, none⟩)
    | 3 => X = .int .u64 (key : Int)
    | 4 => X = .bool ((keyN s : Int) == (key : Int))
    | _ => True) ?_ (by kernel_rfl) ?_ ?_
  · intro i X W W' HB H
    match i, H with
    | 0, H => exact H
    | 1, H => exact H
    | 2, H => exact H
    | 3, H => exact H
    | 4, H => exact H
    | _ + 5, _ => exact trivial
  · refine ⟨?_, ?_, ?_, ?_, ?_, trivial⟩
    · -- 0: Op.move t15
      intro σ W HJ hdep
      simp [Region.binds] at hdep
      have HJ := hid HJ
      refine wpOp_plain rfl rfl ?_
      go_simp
      exact Left.mk0 (xv) (by first | rfl | simp [updF, *]) HJ.out rfl
    · -- 1: Op.call { value (Operand.func 26), args := #[t50], argTypes 
      intro σ W HJ hdep
      simp [Region.binds] at hdep
      have HJ := hid HJ
      have HK := hid (refKey_any s xv N W (Nat.le_trans hN HJ.out.size) (hx.out.below (HJ.out.mono hN)) hsl)
      refine wpOp_plain rfl rfl ?_
      go_simp
      refine (HK.out).mono ?_
      rintro e w2 ⟨rfl, hb2⟩
      exact Left.mk (.int .u64 (keyN s : Int)) (by first | rfl | simp [updF, *]) hb2 HJ.out rfl
    · -- 2: Op.fieldAddr 45 t12 0
      intro σ W HJ hdep
      simp [Region.binds] at hdep
      have HJ := hid HJ
      refine wpOp_plain rfl rfl ?_
      go_simp
      exact Left.mk0 (.pointer (some ⟨gv, 0, none⟩)) (by first | rfl | simp [updF, *]) HJ.out rfl
    · -- 3: Op.load 43 t52
      intro σ W HJ hdep
      simp [Region.binds] at hdep
      have HJ := hid HJ
      have k := (hr.out.below HJ.out hr.out.lt).cell 0
      simp at k
      refine wpOp_plain rfl rfl ?_
      go_simp
      exact Left.mk0 (.int .u64 (key : Int)) (by first | rfl | simp [updF, *]) HJ.out rfl
    · -- 4: Op.binOp BinOp.eql 43 t51 t53 43
      intro σ W HJ hdep
      simp [Region.binds] at hdep
      have HJ := hid HJ
      obtain ⟨e1, e2⟩ := hdep
      refine wpOp_plain rfl rfl ?_
      go_simp
      exact Left.mk0 (.bool ((keyN s : Int) == (key : Int))) (by first | rfl | simp [updF, *]) HJ.out rfl
  · intro σ w' hb hg
    exact hQ.out σ w' hb (by first | exact ⟨hg 4 (by decide)⟩ | exact hg 4 (by decide))
end Go.Proofs.YtfpngilmdgeikaaDoor
namespace Go.Proofs.YtfpngilmdgeikaaDoor
open Go.RowKit

theorem voteRow_none : vtRow Vt.none = [.bool false, .int .u64 0, .int .u64 0] := rfl
set_option maxRecDepth 100000 in
set_option maxHeartbeats 4000000 in
theorem refSignC : SignC 20 := by
  intro h l seeds hv lv sv N w htab hN hhv hf hl hll hok hs hsl hsf
  have HV := hid hhv
  have HL := hid hl
  have HS := hid hs
  have HTAB := hid htab
  have HSF := hid hsf
  have HOK := hid hok
  obtain ⟨rv, vv, nv, rfl, h1, h2, h3⟩ := hhv
  have H2 := hid h2
  obtain ⟨o1, c1, rfl, _⟩ := h1.shape
  obtain ⟨o2, c2, rfl, _⟩ := h2.shape
  obtain ⟨o3, c3, rfl, _⟩ := h3.shape
  obtain ⟨ol, cl, rfl, _⟩ := hl.shape
  obtain ⟨os, cs, rfl, _⟩ := hs.shape
  obtain ⟨w0, hw0⟩ : ∃ w0, w.alloc (.cells #[.string h.chain, .int .i64 h.height, .int .i64 h.time, .slice o1 h.root.length c1, .slice o2 h.vals.length c2, .slice o3 h.next.length c3] 25) = w0 := ⟨_, rfl⟩
  have hb0 : Below w.heap.size w w0 := by rw [← hw0]; exact (Below.refl _ _).alloc (Nat.le_refl _) _
  have hr0 : Row w0 w.heap.size 25 [.string h.chain, .int .i64 h.height, .int .i64 h.time, .slice o1 h.root.length c1, .slice o2 h.vals.length c2, .slice o3 h.next.length c3] := by rw [← hw0]; exact Row.new _ _ _
  have hsz0 : w0.heap.size = w.heap.size + 1 := by rw [← hw0]; simp
  obtain ⟨w1, hw1⟩ : ∃ w1, w0.alloc (.cells #[.string ⟨#[]⟩, .int .i64 0, .int .i64 0, .slice none 0 0, .slice none 0 0, .slice none 0 0, .slice none 0 0, .slice none 0 0] 29) = w1 := ⟨_, rfl⟩
  have hb1 : Below w0.heap.size w0 w1 := by rw [← hw1]; exact (Below.refl _ _).alloc (Nat.le_refl _) _
  have hr1 := hr0.below hb1 hr0.lt
  have HR1 := hid hr1
  have HZ1 := hid (show Row w1 (w.heap.size + 1) 29 [.string ⟨#[]⟩, .int .i64 0, .int .i64 0, .slice none 0 0, .slice none 0 0, .slice none 0 0, .slice none 0 0, .slice none 0 0] by rw [← hw1, ← hsz0]; exact Row.new _ _ _)
  have HB1 := hid (hb0.trans (hb1.mono hb0.size))
  obtain ⟨k0, k1, k2, k3, k4, k5⟩ := hr1.six
  have HWR := hid (refWrong_any h _ N w1 (HV.out.below (HB1.out.mono hN)) hf)
  have hvl : h.vals.length < 2305843009213693952 := by have := hf.2.2.1; omega
  -- where it ends with an error: the result's block holds what it held
  have ERR := hid (show ∀ wq : World, Below w1.heap.size w1 wq → Row wq (w.heap.size + 1) 29 [.string ⟨#[]⟩, .int .i64 0, .int .i64 0, .slice none 0 0, .slice none 0 0, .slice none 0 0, .slice none 0 0, .slice none 0 0] from fun wq hq => HZ1.out.below hq HZ1.out.lt)
  clear h1 h2 h3 hl hs htab hsf hok hb0 hr0 hb1 hr1
  by_cases hw : wrongH h = 0
  · have e1 : (wrongH h != 0) = false := by simp [hw]
    by_cases hvv : valsN l = 0
    · have e2 : (valsN l != 0) = false := by simp [hvv]
      have HVO := hid (valsN_ok hvv)
      by_cases hd : digV l = h.vals
      · have HSG := hid (signS_ok (seeds := seeds) (show togetherN h l = 0 by unfold togetherN; rw [if_neg (by simp [hw]), if_neg (by simp [hvv]), if_pos hd.symm]))
        have HT := hid (show togetherN h l = 0 by unfold togetherN; rw [if_neg (by simp [hw]), if_neg (by simp [hvv]), if_pos hd.symm])
        have HD := hid hd
        have HWH := hid hw
        clear hd hw hvv
        generalize hn : l.length = n at *
        have HN := hid hn
        clear hn
        have HML := hid (wrs_head h HWH.out)
        go_enter Tryd.func20, Tryd.ntmps20
        go_wp2_with fail
        refine HWR.out.mono ?_
        rintro e w2 ⟨rfl, hb2⟩
        have HB2 := hid (HB1.out.trans (hb2.mono HB1.out.size))
        have HR2 := hid (HR1.out.below hb2 HR1.out.lt)
        have HZ2 := hid (ERR.out w2 hb2)
        have HVC := hid (refValsC l _ N w2 (HL.out.below (HB2.out.mono hN)) (Nat.le_trans hN HB2.out.size) (by rw [HN.out]; exact hll))
        clear hb2 hw0 hw1
        generalize wrongH h = ww at e1 ⊢
        go_wp2_with fail
        refine HVC.out.mono ?_
        rintro e w3 ⟨rfl, hb3⟩
        have HB3 := hid (HB2.out.trans (hb3.mono HB2.out.size))
        have HR3 := hid (HR2.out.below hb3 HR2.out.lt)
        have HZ3 := hid (HZ2.out.below hb3 HZ2.out.lt)
        clear hb3
        generalize valsN l = vw at e2 ⊢
        go_wp2_with fail
        refine refTogRegion h l _ o1 o2 o3 c1 c2 c3 (hid (HTAB.out.below HB3.out HTAB.out.lt)) HR3 (hid (H2.out.below (HB3.out.mono hN))) hvl (hid (HL.out.below (HB3.out.mono hN))) (Nat.le_trans hN HB3.out.size) (by rw [HN.out]; exact HVO.out.2.1) HOK _ (hid ?_)
        intro σ w4 hb4 h5
        have h5 : σ 5 = .bool false := by rw [h5, decide_eq_true HD.out]; rfl
        have HB4 := hid (HB3.out.trans (hb4.mono HB3.out.size))
        have hr4 := HR3.out.below hb4 HR3.out.lt
        have HR4 := hid hr4
        have HZ4 := hid (HZ3.out.below hb4 HZ3.out.lt)
        obtain ⟨k0, k1, k2, k3, k4, k5⟩ := hr4.six
        rw [h5]
        clear hb4 h5 hr4
        obtain ⟨G, hG⟩ : ∃ G, w4.heap.size = G := ⟨_, rfl⟩
        obtain ⟨w5, hw5⟩ : ∃ w5, w4.alloc (.cells #[.string h.chain, .int .i64 h.height, .int .i64 h.time, .slice o1 h.root.length c1, .slice o2 h.vals.length c2, .slice o3 h.next.length c3, .slice ol n cl, .slice none 0 0] 29) = w5 := ⟨_, rfl⟩
        have hb5 : Below w4.heap.size w4 w5 := by rw [← hw5]; exact (Below.refl _ _).alloc (Nat.le_refl _) _
        have hr5 : Row w5 G 29 [.string h.chain, .int .i64 h.height, .int .i64 h.time, .slice o1 h.root.length c1, .slice o2 h.vals.length c2, .slice o3 h.next.length c3, .slice ol n cl, .slice none 0 0] := by rw [← hw5, ← hG]; exact Row.new _ _ _
        have HR5 := hid hr5
        have q7 := hr5.cell 7
        have z7 := hr5.frozen 7
        have s7 := setCell_same hr5 (i := 7) rfl
        have HH5 := hid (HR4.out.below hb5 HR4.out.lt)
        have HZ5 := hid (HZ4.out.below hb5 HZ4.out.lt)
        have HB5 := hid (HB4.out.trans (hb5.mono HB4.out.size))
        have HGL := hid (show w.heap.size + 1 < G by have := HZ4.out.lt; omega)
        have HG5 := hid (show G < w5.heap.size from hr5.lt)
        clear hb5 hr5
        go_wp2_with fail
        clear hw5 s7 q7 z7
        obtain ⟨m, hm⟩ : ∃ m, bytesH h = m := ⟨_, rfl⟩
        rw [hm] at HML
        have HM := hid hm
        clear hm
        go_loopw [12, 13, 15, 40] (fun _ _ _ i wr => ∃ k : Nat, k ≤ n ∧ i = .int .i64 (k : Int) ∧ Hid (∃ tv, Row wr G 29 [.string h.chain, .int .i64 h.height, .int .i64 h.time, .slice o1 h.root.length c1, .slice o2 h.vals.length c2, .slice o3 h.next.length c3, .slice ol n cl, tv] ∧ OwnVt wr G tv (votesOf seeds m (l.take k)) ∧ Row wr w.heap.size 25 [.string h.chain, .int .i64 h.height, .int .i64 h.time, .slice o1 h.root.length c1, .slice o2 h.vals.length c2, .slice o3 h.next.length c3] ∧ Row wr (w.heap.size + 1) 29 [.string ⟨#[]⟩, .int .i64 0, .int .i64 0, .slice none 0 0, .slice none 0 0, .slice none 0 0, .slice none 0 0, .slice none 0 0] ∧ Below w.heap.size w wr)) (fun _ _ _ i _ => n - (intOf i).toNat)
        case atStart => exact ⟨0, by omega, rfl, hid ⟨.slice none 0 0, HR5.out, World.ownsRow_nil _ _ _ _, HH5.out, HZ5.out, HB5.out⟩⟩
        case round =>
          obtain ⟨k, hk, rfl, HI⟩ := hrel
          obtain ⟨tv, i1, i2, i3, i4, i5⟩ := HI.out
          have hszr := i5.size
          have HI1 := hid i1
          have HI2 := hid i2
          have HI3 := hid i3
          have HI4 := hid i4
          have HI5 := hid i5
          obtain ⟨ot, ct, rfl⟩ := i2.shape
          have HTL := hid (show (votesOf seeds m (l.take k)).length = k by unfold votesOf; rw [List.length_map, List.length_take, HN.out]; omega)
          rw [HTL.out] at HI1 HI2
          clear i1 i2 i3 i4 i5 HI
          by_cases hlt : k < n
          · obtain ⟨v, hv⟩ : ∃ v, l[k]? = some v := ⟨l[k]'(by rw [HN.out]; exact hlt), List.getElem?_eq_getElem _⟩
            obtain ⟨b, o, hol, hcells⟩ := Vals.spot HL.out (by omega)
            subst hol
            obtain ⟨hbN, d0, d1⟩ := hcells k v hv
            have hbl : b < w.heap.size := by omega
            have f0 := (HI5.out.cell (p := ⟨b, o + k * 2, none⟩) hbl).trans d0
            have f1 := (HI5.out.cell (p := ⟨b, o + k * 2 + 1, none⟩) hbl).trans d1
            have hlt' : (k : Int) < (n : Int) := by omega
            have HVT := hid (votesOf_take seeds m l k v hv)
            obtain ⟨gv, hgv⟩ : ∃ gv, wr.heap.size = gv := ⟨_, rfl⟩
            obtain ⟨w6, hw6⟩ : ∃ w6, wr.alloc (.cells #[.int .u64 (v.key : Int), .int .u64 (v.power : Int)] 45) = w6 := ⟨_, rfl⟩
            have hsz6 : w6.heap.size = gv + 1 := by rw [← hw6, ← hgv]; simp
            have hb6 : Below gv wr w6 := by rw [← hw6, ← hgv]; exact (Below.refl _ _).alloc (Nat.le_refl _) _
            have hr6 : Row w6 gv 45 [.int .u64 (v.key : Int), .int .u64 (v.power : Int)] := by rw [← hw6, ← hgv]; exact Row.new _ _ _
            obtain ⟨w7, hw7⟩ : ∃ w7, w6.alloc (.cells #[.bool false, .int .u64 0, .int .u64 0] 51) = w7 := ⟨_, rfl⟩
            have hb7 : Below (gv + 1) w6 w7 := by rw [← hw7, ← hsz6]; exact (Below.refl _ _).alloc (Nat.le_refl _) _
            have hr7 : Row w7 (gv + 1) 51 (vtRow (voteOf (seeds.take 0) m v.key)) := by rw [← hw7, ← hsz6]; exact Row.new _ _ _
            have HV7 := hid (hr6.below hb7 (by omega))
            have HB7 := hid (show Below gv wr w7 from hb6.trans (hb7.mono (by omega)))
            have HR7 := hid hr7
            have HW6 := hid hw6
            have HW7 := hid hw7
            clear d0 d1 hcells hb6 hr6 hb7 hr7 hw6 hw7 hv
            generalize hns : seeds.length = ns at *
            have HNS := hid hns
            clear hns
            go_wp2_with fail
            rw [HW6.out]
            go_wp2_with fail
            rw [HW7.out]
            go_wp2_with fail
            generalize wr = wo at *
            go_loopw [15, 46] (fun _ i wx => ∃ j : Nat, j ≤ ns ∧ i = .int .i64 (j : Int) ∧ Hid (Row wx (gv + 1) 51 (vtRow (voteOf (seeds.take j) m v.key)) ∧ Below (gv + 1) w7 wx)) (fun _ i _ => ns - (intOf i).toNat)
            case atStart => exact ⟨0, by omega, rfl, hid ⟨HR7.out, Below.refl _ _⟩⟩
            case round =>
              obtain ⟨j, hj, rfl, HJ⟩ := hrel
              have hszx := HJ.out.2.size
              have HBX := hid (show Below gv wo wr from HB7.out.trans (HJ.out.2.mono (by omega)))
              have HBW := hid (HI5.out.trans (HBX.out.mono (by omega)))
              by_cases hjlt : j < ns
              · obtain ⟨s, hs⟩ : ∃ s, seeds[j]? = some s := ⟨seeds[j]'(by rw [HNS.out]; exact hjlt), List.getElem?_eq_getElem _⟩
                obtain ⟨bs, p2, hos, hcells⟩ := Lists.some (show Lists w N (.slice os seeds.length cs) seeds by rw [HNS.out]; exact HS.out) (by rw [HNS.out]; omega)
                subst hos
                obtain ⟨hbN2, x, hx, hbx⟩ := hcells j (by rw [HNS.out]; exact hjlt)
                have hgd : seeds.getD j [] = s := by simp [List.getD, hs]
                rw [hgd] at hbx
                have f2 := (HBW.out.cell (p := ⟨bs, p2 + j, none⟩) (by show bs < _; omega)).trans hx
                have HX := hid hbx
                obtain ⟨ox, cx, rfl, _⟩ := hbx.shape
                have HVX := hid (HV7.out.below HJ.out.2 (by omega))
                have HST := hid (voteOf_take seeds m v.key j s hs)
                have HSL := hid (HSF.out s (List.mem_of_getElem? hs))
                have hjlt' : (j : Int) < (ns : Int) := by omega
                clear hcells hx hbx hgd hs
                go_wp2_with fail
                refine refKeyRegion s v.key v.power _ HVX (hid (HX.out.below (HBW.out.mono hN))) (Nat.le_trans hN HBW.out.size) HSL.out _ (hid ?_)
                intro σ2 w8 hb8 h4
                have HR8 := hid (HJ.out.1.below hb8 HJ.out.1.lt)
                have HB8 := hid (HJ.out.2.trans (hb8.mono (Nat.le_of_lt HJ.out.1.lt)))
                have HW8 := hid (HBW.out.trans (hb8.mono HBW.out.size))
                clear hb8
                by_cases hk : keyN s = v.key
                · have h4 : σ2 4 = .bool true := by rw [h4, hk]; simp
                  rw [if_pos hk] at HST
                  rw [h4]
                  clear h4 hk
                  have HO8 := hid (HB7.out.trans (HB8.out.mono (show gv ≤ gv + 1 by omega)))
                  obtain ⟨k0, k1, k2, k3, k4, k5⟩ := (HI3.out.below HO8.out (by have := HI3.out.lt; omega)).six
                  have HBY := hid (refBytesC h _ N w8 (HV.out.below (HW8.out.mono hN)) (Nat.le_trans hN HW8.out.size) HWH.out)
                  rw [HM.out] at HBY
                  go_wp2_with fail
                  refine HBY.out.mono ?_
                  rintro e w9 ⟨x2, rfl, hx2, hb9⟩
                  obtain ⟨oy, cy, rfl, _⟩ := hx2.shape
                  have HW9 := hid (HW8.out.trans (hb9.mono HW8.out.size))
                  have HR9 := hid (HR8.out.below hb9 HR8.out.lt)
                  have HB9 := hid (HB8.out.trans (hb9.mono (Nat.le_of_lt HR8.out.lt)))
                  have HSN := hid (refSign_any s m _ _ w9.heap.size w9 (Nat.le_refl _) ((HX.out.below (HW9.out.mono hN)).mono (Nat.le_trans hN HW9.out.size)) hx2 HSL.out (by have := HML.out; omega))
                  clear hx2 hb9
                  generalize s.length = sl at *
                  generalize m.length = ml at *
                  go_wp2_with fail
                  refine HSN.out.mono ?_
                  rintro e w10 ⟨rfl, hb10⟩
                  have HR10 := hid (HR9.out.below hb10 HR9.out.lt)
                  have HB10 := hid (HB9.out.trans (hb10.mono (Nat.le_of_lt HR9.out.lt)))
                  clear hb10
                  generalize voteOf (seeds.take j) m v.key = tj at *
                  have q0 : w10.cell? ⟨gv + 1, 0, none⟩ = some (.bool tj.is) := HR10.out.cell 0
                  have q1 : w10.cell? ⟨gv + 1, 1, none⟩ = some (.int .u64 (tj.r : Int)) := HR10.out.cell 1
                  have q2 : w10.cell? ⟨gv + 1, 2, none⟩ = some (.int .u64 (tj.s : Int)) := HR10.out.cell 2
                  have z0 := HR10.out.frozen 0
                  have z1 := HR10.out.frozen 1
                  have z2 := HR10.out.frozen 2
                  generalize sealR s m = sr at *
                  generalize sealS s m = ss at *
                  go_wp2_with fail
                  go_roundw
                  case rel =>
                    refine ⟨j + 1, by omega, by go_num, hid ⟨?_, ((HB10.out.setCell (Nat.le_refl _) _).setCell (Nat.le_refl _) _).setCell (Nat.le_refl _) _⟩⟩
                    rw [HST.out]
                    exact ((HR10.out.set 0 (.bool true)).set 1 (.int .u64 (sr : Int))).set 2 (.int .u64 (ss : Int))
                  case measure => simp [intOf]; omega
                · have h4 : σ2 4 = .bool false := by rw [h4]; simp; omega
                  rw [if_neg hk] at HST
                  rw [h4]
                  clear h4 hk
                  go_wp2_with fail
                  go_roundw
                  case rel => exact ⟨j + 1, by omega, by go_num, hid ⟨by rw [HST.out]; exact HR8.out, HB8.out⟩⟩
                  case measure => simp [intOf]; omega
              · have hge : decide ((j : Int) < (ns : Int)) = false := by simp; omega
                have hgen : decide (j < ns) = false := decide_eq_false hjlt
                have hr9 := HJ.out.1
                rw [List.take_of_length_le (by rw [HNS.out]; omega)] at hr9
                generalize voteOf seeds m v.key = tj at *
                have HR9 := hid hr9
                have q0 : wr.cell? ⟨gv + 1, 0, none⟩ = some (.bool tj.is) := hr9.cell 0
                have q1 : wr.cell? ⟨gv + 1, 1, none⟩ = some (.int .u64 (tj.r : Int)) := hr9.cell 1
                have q2 : wr.cell? ⟨gv + 1, 2, none⟩ = some (.int .u64 (tj.s : Int)) := hr9.cell 2
                have HBG := hid (show Below wo.heap.size wo wr by rw [hgv]; exact HBX.out)
                have HI1x := hid (HI1.out.below HBG.out HI1.out.lt)
                have HI3x := hid (HI3.out.below HBG.out HI3.out.lt)
                have HI4x := hid (HI4.out.below HBG.out HI4.out.lt)
                have HI2x := hid (HI2.out.below HBG.out)
                have g7 := HI1x.out.cell 7
                have HGB := hid (show G ≤ wr.heap.size from Nat.le_of_lt HI1x.out.lt)
                have HTK := hid (show (votesOf seeds m (l.take k)).length ≤ 1000 by rw [HTL.out]; have := HVO.out.2.1; omega)
                clear hr9
                go_wp2_with (at_builtin; refine wpList_append_vt rfl (.tmp 62) (.tmp 64) rfl G _ (votesOf seeds m (l.take k)) rfl HI2x.out tj rfl HTK.out HGB.out ?_; intro v8 w8 hown8 hgr8 hb8; obtain ⟨o8, c8, rfl⟩ := hown8.shape; have HO8 := hid hown8; have HR8 := hid ((HI1x.out.alloc _).past (ownsRow_below HI2x.out ((Below.refl _ _).alloc (Nat.le_refl _) _)) (by decide) hgr8); have HH8 := hid ((HI3x.out.alloc _).past (ownsRow_below HI2x.out ((Below.refl _ _).alloc (Nat.le_refl _) _)) (by decide) hgr8); have HZ8 := hid ((HI4x.out.alloc _).past (ownsRow_below HI2x.out ((Below.refl _ _).alloc (Nat.le_refl _) _)) (by decide) hgr8); have g8 := HR8.out.cell 7; have z8 := HR8.out.frozen 7; have HB8 := hid hb8; clear hown8 hgr8 hb8)
                go_roundw
                case rel =>
                  refine ⟨k + 1, by omega, by go_num, hid ⟨_, HR8.out.set 7 _, ?_, HH8.out.other _ (by show w.heap.size ≠ G; have := HGL.out; omega), HZ8.out.other _ (by show w.heap.size + 1 ≠ G; have := HGL.out; omega), ?_⟩⟩
                  · rw [HVT.out]
                    have ho := HO8.out
                    rw [List.length_append, List.length_singleton] at ho
                    exact ho.keep HR8.out (by decide) (fun q hq => heap_setCell_other w8 ⟨G, 7, none⟩ q _ hq)
                  · exact (HBW.out.trans (HB8.out.mono (by have := HGL.out; omega))).setCell (show w.heap.size ≤ G by have := HGL.out; omega) _
                case measure => simp [intOf]; omega
          · have hge : decide ((k : Int) < (n : Int)) = false := by simp; omega
            have hgen : decide (k < n) = false := decide_eq_false hlt
            have HVS := hid (show Votes wr wr.heap.size (.slice ot k ct) (votesOf seeds m l) by
              have := HI2.out.votes
              rw [List.take_of_length_le (by rw [HN.out]; omega)] at this
              exact this)
            have HSV := hid (show SgV wr wr.heap.size (.agg #[.string h.chain, .int .i64 h.height, .int .i64 h.time, .slice o1 h.root.length c1, .slice o2 h.vals.length c2, .slice o3 h.next.length c3, .slice ol n cl, .slice ot k ct]) ⟨h, l, votesOf seeds m l⟩ by
              obtain ⟨a1, a2, a3, ha, b1, b2, b3⟩ := (HV.out.below (HI5.out.mono hN)).mono (Nat.le_trans hN hszr)
              obtain ⟨rfl, rfl, rfl⟩ : Value.slice o1 h.root.length c1 = a1 ∧ Value.slice o2 h.vals.length c2 = a2 ∧ Value.slice o3 h.next.length c3 = a3 := by simpa using ha
              exact ⟨_, _, _, _, _, rfl, b1, b2, b3, (HL.out.below (HI5.out.mono hN)).mono (Nat.le_trans hN hszr), HVS.out⟩)
            obtain ⟨g0, g1, g2, g3, g4, g5, g6, g7⟩ := HI1.out.eight
            obtain ⟨q0, q1, q2, q3, q4, q5, q6, q7⟩ := HI4.out.eight
            have z0 := HI4.out.frozen 0
            have z1 := HI4.out.frozen 1
            have z2 := HI4.out.frozen 2
            have z3 := HI4.out.frozen 3
            have z4 := HI4.out.frozen 4
            have z5 := HI4.out.frozen 5
            have z6 := HI4.out.frozen 6
            have z7 := HI4.out.frozen 7
            go_wp2
            have hrow := set8_row HI4.out (.string h.chain) (.int .i64 h.height) (.int .i64 h.time) (.slice o1 h.root.length c1) (.slice o2 h.vals.length c2) (.slice o3 h.next.length c3) (.slice ol n cl) (.slice ot k ct)
            obtain ⟨r0, r1, r2, r3, r4, r5, r6, r7⟩ := hrow.eight
            unfold set8 at r0 r1 r2 r3 r4 r5 r6 r7
            refine bodyPost_ret (v := .tuple #[.agg #[.string h.chain, .int .i64 h.height, .int .i64 h.time, .slice o1 h.root.length c1, .slice o2 h.vals.length c2, .slice o3 h.next.length c3, .slice ol n cl, .slice ot k ct], .int .i64 0]) (by simp [results, Tryd.results20, go_sem, r0, r1, r2, r3, r4, r5, r6, r7]) rfl ⟨_, by rw [HT.out], ?_, ?_⟩
            · rw [HSG.out, HM.out]
              have hs8 := set8_size wr (w.heap.size + 1) (.string h.chain) (.int .i64 h.height) (.int .i64 h.time) (.slice o1 h.root.length c1) (.slice o2 h.vals.length c2) (.slice o3 h.next.length c3) (.slice ol n cl) (.slice ot k ct)
              exact SgV.mono (SgV.only HSV.out HI4.out rfl (set8_other wr (w.heap.size + 1) (.string h.chain) (.int .i64 h.height) (.int .i64 h.time) (.slice o1 h.root.length c1) (.slice o2 h.vals.length c2) (.slice o3 h.next.length c3) (.slice ol n cl) (.slice ot k ct))) (Nat.le_of_eq hs8.symm)
            · exact set8_below HI5.out (show w.heap.size ≤ w.heap.size + 1 by omega) _ _ _ _ _ _ _ _
      · have HT := hid (show togetherN h l = 8 by unfold togetherN; rw [if_neg (by simp [hw]), if_neg (by simp [hvv]), if_neg (fun e => hd e.symm)])
        have HSG := hid (signS_no (seeds := seeds) (show togetherN h l ≠ 0 by rw [HT.out]; decide))
        have HD := hid hd
        clear hd hw hvv
        generalize hn : l.length = n at *
        have HN := hid hn
        clear hn
        go_enter Tryd.func20, Tryd.ntmps20
        go_wp2_with fail
        refine HWR.out.mono ?_
        rintro e w2 ⟨rfl, hb2⟩
        have HB2 := hid (HB1.out.trans (hb2.mono HB1.out.size))
        have HR2 := hid (HR1.out.below hb2 HR1.out.lt)
        have HZ2 := hid (ERR.out w2 hb2)
        have HVC := hid (refValsC l _ N w2 (HL.out.below (HB2.out.mono hN)) (Nat.le_trans hN HB2.out.size) (by rw [HN.out]; exact hll))
        clear hb2 hw0 hw1
        generalize wrongH h = ww at e1 ⊢
        go_wp2_with fail
        refine HVC.out.mono ?_
        rintro e w3 ⟨rfl, hb3⟩
        have HB3 := hid (HB2.out.trans (hb3.mono HB2.out.size))
        have HR3 := hid (HR2.out.below hb3 HR2.out.lt)
        have HZ3 := hid (HZ2.out.below hb3 HZ2.out.lt)
        clear hb3
        generalize valsN l = vw at e2 ⊢
        go_wp2_with fail
        refine refTogRegion h l _ o1 o2 o3 c1 c2 c3 (hid (HTAB.out.below HB3.out HTAB.out.lt)) HR3 (hid (H2.out.below (HB3.out.mono hN))) hvl (hid (HL.out.below (HB3.out.mono hN))) (Nat.le_trans hN HB3.out.size) (by rw [HN.out]; exact HVO.out.2.1) HOK _ (hid ?_)
        intro σ w4 hb4 h5
        have h5 : σ 5 = .bool true := by rw [h5, decide_eq_false HD.out]; rfl
        have HB4 := hid (HB3.out.trans (hb4.mono HB3.out.size))
        have hz := HZ3.out.below hb4 HZ3.out.lt
        rw [h5]
        clear hb4 h5
        obtain ⟨q0, q1, q2, q3, q4, q5, q6, q7⟩ := hz.eight
        have z0 := hz.frozen 0
        have z1 := hz.frozen 1
        have z2 := hz.frozen 2
        have z3 := hz.frozen 3
        have z4 := hz.frozen 4
        have z5 := hz.frozen 5
        have z6 := hz.frozen 6
        have z7 := hz.frozen 7
        have s0 := setCell_same hz (i := 0) rfl
        have s1 := setCell_same hz (i := 1) rfl
        have s2 := setCell_same hz (i := 2) rfl
        have s3 := setCell_same hz (i := 3) rfl
        have s4 := setCell_same hz (i := 4) rfl
        have s5 := setCell_same hz (i := 5) rfl
        have s6 := setCell_same hz (i := 6) rfl
        have s7 := setCell_same hz (i := 7) rfl
        clear hz
        go_wp2
        refine bodyPost_ret (v := .tuple #[.agg #[.string ⟨#[]⟩, .int .i64 0, .int .i64 0, .slice none 0 0, .slice none 0 0, .slice none 0 0, .slice none 0 0, .slice none 0 0], .int .i64 8]) (by simp [results, Tryd.results20, go_sem, q0, q1, q2, q3, q4, q5, q6, q7]) rfl ⟨_, by rw [HT.out], ?_, HB4.out⟩
        rw [HSG.out]
        exact sgNone _ _
    · have e2 : (valsN l != 0) = true := by simp [hvv]
      have HT := hid (show togetherN h l = valsN l by unfold togetherN; rw [if_neg (by simp [hw]), if_pos hvv])
      have HSG := hid (signS_no (seeds := seeds) (show togetherN h l ≠ 0 by rw [HT.out]; exact hvv))
      clear hw hvv
      generalize hn : l.length = n at *
      have HN := hid hn
      clear hn
      go_enter Tryd.func20, Tryd.ntmps20
      go_wp2_with fail
      refine HWR.out.mono ?_
      rintro e w2 ⟨rfl, hb2⟩
      have HB2 := hid (HB1.out.trans (hb2.mono HB1.out.size))
      have HZ2 := hid (ERR.out w2 hb2)
      have HVC := hid (refValsC l _ N w2 (HL.out.below (HB2.out.mono hN)) (Nat.le_trans hN HB2.out.size) (by rw [HN.out]; exact hll))
      clear hb2 hw0 hw1
      generalize wrongH h = ww at e1 ⊢
      go_wp2_with fail
      refine HVC.out.mono ?_
      rintro e w3 ⟨rfl, hb3⟩
      have HB3 := hid (HB2.out.trans (hb3.mono HB2.out.size))
      have hz := HZ2.out.below hb3 HZ2.out.lt
      clear hb3
      generalize valsN l = vw at e2 HT ⊢
      obtain ⟨q0, q1, q2, q3, q4, q5, q6, q7⟩ := hz.eight
      have z0 := hz.frozen 0
      have z1 := hz.frozen 1
      have z2 := hz.frozen 2
      have z3 := hz.frozen 3
      have z4 := hz.frozen 4
      have z5 := hz.frozen 5
      have z6 := hz.frozen 6
      have z7 := hz.frozen 7
      have s0 := setCell_same hz (i := 0) rfl
      have s1 := setCell_same hz (i := 1) rfl
      have s2 := setCell_same hz (i := 2) rfl
      have s3 := setCell_same hz (i := 3) rfl
      have s4 := setCell_same hz (i := 4) rfl
      have s5 := setCell_same hz (i := 5) rfl
      have s6 := setCell_same hz (i := 6) rfl
      have s7 := setCell_same hz (i := 7) rfl
      clear hz
      go_wp2
      refine bodyPost_ret (v := .tuple #[.agg #[.string ⟨#[]⟩, .int .i64 0, .int .i64 0, .slice none 0 0, .slice none 0 0, .slice none 0 0, .slice none 0 0, .slice none 0 0], .int .i64 vw]) (by simp [results, Tryd.results20, go_sem, q0, q1, q2, q3, q4, q5, q6, q7]) rfl ⟨_, by rw [HT.out], ?_, HB3.out⟩
      rw [HSG.out]
      exact sgNone _ _
  · have e1 : (wrongH h != 0) = true := by simp [hw]
    have HT := hid (show togetherN h l = wrongH h by unfold togetherN; rw [if_pos hw])
    have HSG := hid (signS_no (seeds := seeds) (show togetherN h l ≠ 0 by rw [HT.out]; exact hw))
    clear hw
    go_enter Tryd.func20, Tryd.ntmps20
    go_wp2_with fail
    refine HWR.out.mono ?_
    rintro e w2 ⟨rfl, hb2⟩
    have HB2 := hid (HB1.out.trans (hb2.mono HB1.out.size))
    have hz := ERR.out w2 hb2
    clear hb2 hw0 hw1
    generalize wrongH h = ww at e1 HT ⊢
    obtain ⟨q0, q1, q2, q3, q4, q5, q6, q7⟩ := hz.eight
    have z0 := hz.frozen 0
    have z1 := hz.frozen 1
    have z2 := hz.frozen 2
    have z3 := hz.frozen 3
    have z4 := hz.frozen 4
    have z5 := hz.frozen 5
    have z6 := hz.frozen 6
    have z7 := hz.frozen 7
    have s0 := setCell_same hz (i := 0) rfl
    have s1 := setCell_same hz (i := 1) rfl
    have s2 := setCell_same hz (i := 2) rfl
    have s3 := setCell_same hz (i := 3) rfl
    have s4 := setCell_same hz (i := 4) rfl
    have s5 := setCell_same hz (i := 5) rfl
    have s6 := setCell_same hz (i := 6) rfl
    have s7 := setCell_same hz (i := 7) rfl
    clear hz
    go_wp2
    refine bodyPost_ret (v := .tuple #[.agg #[.string ⟨#[]⟩, .int .i64 0, .int .i64 0, .slice none 0 0, .slice none 0 0, .slice none 0 0, .slice none 0 0, .slice none 0 0], .int .i64 ww]) (by simp [results, Tryd.results20, go_sem, q0, q1, q2, q3, q4, q5, q6, q7]) rfl ⟨_, by rw [HT.out], ?_, HB2.out⟩
    rw [HSG.out]
    exact sgNone _ _
end Go.Proofs.YtfpngilmdgeikaaDoor
