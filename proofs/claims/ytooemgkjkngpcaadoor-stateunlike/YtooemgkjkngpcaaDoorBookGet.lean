/-
  What bytes.Compare, compareKey and find answer: bytes in order; where a key stands in a book, or would.
  What package book's functions are to answer, as the statements' walks ask it; and that the document's functions answer it.
  What package book's tooMuch and Get, and bytes.Clone, answer.
-/
import Derived.Test.YtooemgkjkngpcaaDoorPairsAll
import Derived.Test.YtooemgkjkngpcaaDoorBookMath
import Derived.Lib.BytesEntry
import Derived.Lib.Bytealg
import Derived.Laws.Externs
import Derived.Test.YtooemgkjkngpcaaDoorBookTree
import Derived.Test.YtooemgkjkngpcaaDoorShaAll
import Derived.Test.YtooemgkjkngpcaaDoorSameB
import Derived.Lib.SliceRun
namespace Go.Proofs.YtooemgkjkngpcaaDoor
open Go.RowKit

/-- how two lists of bytes lie to each other -/
def cmpB (a b : List (BitVec 8)) : Int := if lessB a b = true then -1 else if lessB b a = true then 1 else 0
theorem cmpB_neg (a b : List (BitVec 8)) : cmpB a b < 0 ↔ lessB a b = true := by
  unfold cmpB
  split
  · simp [*]
  · split <;> simp [*]
theorem cmpB_zero (a b : List (BitVec 8)) : cmpB a b = 0 ↔ a = b := by
  unfold cmpB
  split
  · rename_i h
    exact ⟨fun h' => absurd h' (by decide), fun h' => absurd h' (lessB_ne h)⟩
  · rename_i h
    split
    · rename_i h2
      exact ⟨fun h' => absurd h' (by decide), fun h' => absurd h'.symm (lessB_ne h2)⟩
    · rename_i h2
      refine ⟨fun _ => ?_, fun _ => rfl⟩
      by_cases e : a = b
      · exact e
      · exact absurd (lessB_total a b e (by simpa using h)) h2
def toU8 (x : BitVec 8) : UInt8 := (b8 x).toNat.toUInt8
theorem toU8_lt (x y : BitVec 8) : toU8 x < toU8 y ↔ x.toNat < y.toNat := by
  have hx := x.isLt
  have hy := y.isLt
  unfold toU8 b8
  rw [UInt8.lt_iff_toNat_lt]
  simp
theorem compare_cmpB : ∀ a b : List (BitVec 8), Lib.compareBytes (a.map toU8) (b.map toU8) = cmpB a b
  | [], [] => rfl
  | [], _ :: _ => rfl
  | _ :: _, [] => rfl
  | x :: a, y :: b => by
    have ih := compare_cmpB a b
    rw [List.map_cons, List.map_cons, Lib.compareBytes, ih]
    unfold cmpB
    rw [lessB, lessB]
    by_cases e : x = y
    · subst e
      simp [UInt8.lt_irrefl]
    · have e' : ¬ y = x := fun h => e h.symm
      rw [if_neg e, if_neg e']
      simp only [toU8_lt, decide_eq_true_eq]
      by_cases h1 : x.toNat < y.toNat
      · simp [h1]
      · have h2 : y.toNat < x.toNat := by
          rcases Nat.lt_or_ge y.toNat x.toNat with h | h
          · exact h
          · exact absurd (BitVec.eq_of_toNat_eq (by omega)) e
        simp [h1, h2]
theorem bytes_run {w : World} {N : Nat} {sv : Value} {l : List (BitVec 8)} (h : Bytes w N sv l) : (Extern.Bytes.bytesOf sv).run Tryd.prog w = .ok ⟨(l.map toU8).toArray⟩ w := by
  rcases bytes_source h with ⟨rfl, rfl⟩ | ⟨ad, cap, rfl, hc⟩
  · rfl
  · have hl := Lib.run_loadBytesX (P := Tryd.prog) w (l.map b8) ad .empty (fun j x hj => by
      obtain ⟨y, hy, rfl⟩ : ∃ y, l[j]? = some y ∧ b8 y = x := by simpa using hj
      exact hc j _ (by rw [List.getElem?_map, hy]; rfl))
    rw [List.length_map] at hl
    show (Extern.Bytes.loadBytes ad l.length .empty).run Tryd.prog w = _
    rw [hl]
    congr 2
    simp [Lib.bytesOf, toU8, Function.comp_def]
theorem compare_run {w : World} {N M : Nat} {sa sb : Value} {l m : List (BitVec 8)} (ha : Bytes w N sa l) (hb : Bytes w M sb m) : (callFunc 53 #[sa, sb]).run Tryd.prog w = .ok (.value (.int .i64 (cmpB l m))) w := by
  rw [run_callFunc_extern Tryd.func53 (by kernel_rfl) (by kernel_rfl) (by kernel_rfl) (e := Extern.BytealgCompare.compare) (by kernel_rfl)]
  have : (Extern.BytealgCompare.compare #[sa, sb]).run Tryd.prog w = .ok (.int .i64 (cmpB l m)) w := by
    change Sem.run Tryd.prog (do pure (goInt (Extern.BytealgCompare.cmp (← Extern.Bytes.bytesOf sa) (← Extern.Bytes.bytesOf sb)))) w = _
    simp only [Sem.run_bind, Sem.run_pure, Result.andThen, bytes_run ha, bytes_run hb]
    rw [Lib.cmp_eq]
    simp only [compare_cmpB]
    rfl
  rw [this]
  rfl
theorem compare_any (l m : List (BitVec 8)) (sa sb : Value) (N M : Nat) (w : World) (ha : Bytes w N sa l) (hb : Bytes w M sb m) :
    Calls Tryd.prog 33 #[sa, sb] w fun e w' => e = .returned (.int .i64 (cmpB l m)) ∧ w' = w := by
  obtain ⟨oa, ca, rfl, hca⟩ := ha.shape
  obtain ⟨ob, cb, rfl, hcb⟩ := hb.shape
  have hc := compare_run ha hb
  clear ha hb
  generalize l.length = n at *
  generalize m.length = n' at *
  go_enter Tryd.func33, Tryd.ntmps33
  go_wp2_with (simp only [hc])
  go_ret
  exact ⟨rfl, rfl⟩
theorem compareKey_any (k l : List (BitVec 8)) (kv vv lv : Value) (N : Nat) (w : World) (hk : Bytes w N kv k) (hl : Bytes w N lv l) (hN : N ≤ w.heap.size) :
    Calls Tryd.prog 64 #[.agg #[kv, vv], lv] w fun e w' => e = .returned (.int .i64 (cmpB k l)) ∧ w' = w.alloc (.cells #[kv, vv] 48) := by
  obtain ⟨oa, ca, rfl, hca⟩ := hk.shape
  obtain ⟨ob, cb, rfl, hcb⟩ := hl.shape
  obtain ⟨w1, hw1⟩ : ∃ w1, w.alloc (.cells #[.slice oa k.length ca, vv] 48) = w1 := ⟨_, rfl⟩
  have hb1 : Below w.heap.size w w1 := by rw [← hw1]; exact (Below.refl _ _).alloc (Nat.le_refl _) _
  have hrow : Row w1 w.heap.size 48 [.slice oa k.length ca, vv] := by rw [← hw1]; exact Row.new _ _ _
  have g0 := hrow.cell 0
  have HC := hid (compare_any k l _ _ N N w1 (hk.below (hb1.mono hN)) (hl.below (hb1.mono hN)))
  have HW := hid hw1
  clear hk hl hb1 hrow hw1
  go_enter Tryd.func64, Tryd.ntmps64
  go_wp2_with fail
  rw [HW.out]
  refine HC.out.mono ?_
  rintro e w2 ⟨rfl, hw2⟩
  obtain rfl := hw2.symm
  go_wp2
  go_ret
  exact ⟨rfl, HW.out.symm⟩
set_option maxRecDepth 100000 in
set_option maxHeartbeats 1000000 in
theorem search_any (l : List Pr) (k : List (BitVec 8)) (sv kv : Value) (N : Nat) (w : World) (lb : Array Value) (hlb : lb = #[]) (hN : N ≤ w.heap.size) (hl : Pairs w N sv l) (hk : Bytes w N kv k) (hs : Sorted l) (hlen : l.length ≤ 1000000) :
    Calls Tryd.prog 63 #[sv, kv, .func (.func 64) #[] lb] w fun e w' => Below w.heap.size w w' ∧ ∃ i fd, At k l i fd ∧ e = .returned (.tuple #[.int .i64 (i : Nat), .bool fd]) := by
  subst hlb
  obtain ⟨oa, ca, rfl, hca⟩ := hl.shape
  obtain ⟨ob, cb, rfl, hcb⟩ := hk.shape
  have HL := hid hl
  have HK := hid hk
  have HS := hid hs
  clear hl hk hs
  generalize hn : l.length = n at *
  generalize k.length = nk at *
  have HN := hid hn
  clear hn
  have HCMP := hid (show ∀ (wr : World) (b o j : Nat) (p : Pr), oa = some ⟨b, o, none⟩ → Below w.heap.size w wr → l[j]? = some p → ∃ vk vv, wr.cell? ⟨b, o + j * 2, none⟩ = some vk ∧ wr.cell? ⟨b, o + j * 2 + 1, none⟩ = some vv ∧
      Calls Tryd.prog 64 #[.agg #[vk, vv], .slice ob nk cb] wr (fun e w' => e = .returned (.int .i64 (cmpB p.key k)) ∧ Below w.heap.size w w') from by
    intro wr b o j p hoa hb hp
    obtain ⟨b', o', he, hcells⟩ := HL.out.some (by have := (List.getElem?_eq_some_iff.1 hp).1; rw [HN.out] at this; omega)
    rw [hoa] at he
    obtain ⟨rfl, rfl⟩ : b = b' ∧ o = o' := by simpa using he
    obtain ⟨hbN, vk, vv, d0, d1, hvk, hvv⟩ := hcells j p hp
    refine ⟨vk, vv, (hb.cell (p := ⟨b, o + j * 2, none⟩) (by show b < _; omega)).trans d0, (hb.cell (p := ⟨b, o + j * 2 + 1, none⟩) (by show b < _; omega)).trans d1, ?_⟩
    refine (compareKey_any p.key k vk vv _ N wr (hvk.below (hb.mono hN)) (HK.out.below (hb.mono hN)) (Nat.le_trans hN hb.size)).mono ?_
    rintro e w' ⟨rfl, rfl⟩
    exact ⟨rfl, hb.alloc hb.size _⟩)
  go_enter Tryd.func63, Tryd.ntmps63
  go_wp2_with fail
  go_loopw [9, 10] (fun s9 s10 wr => ∃ lo hi : Nat, s9 = .int .i64 lo ∧ s10 = .int .i64 hi ∧ lo ≤ hi ∧ hi ≤ n ∧ Hid (Below w.heap.size w wr) ∧ Hid ((∀ t p, t < lo → l[t]? = some p → lessB p.key k = true) ∧ (∀ t p, hi ≤ t → l[t]? = some p → lessB p.key k = false))) (fun s9 s10 _ => (intOf s10).toNat - (intOf s9).toNat)
  case atStart => exact ⟨0, n, rfl, rfl, Nat.zero_le _, Nat.le_refl _, Below.refl _ _, fun t p ht => absurd ht (Nat.not_lt_zero _), fun t p h1 h2 => by have := (List.getElem?_eq_some_iff.1 h2).1; rw [HN.out] at this; omega⟩
  case round =>
    obtain ⟨lo, hi, rfl, rfl, hlh, hin, HB, HI⟩ := hrel
    by_cases hlt : lo < hi
    · have hml : (lo + hi) / 2 < n := by omega
      obtain ⟨p, hp⟩ : ∃ p, l[(lo + hi) / 2]? = some p := ⟨l[(lo + hi) / 2]'(by rw [HN.out]; exact hml), List.getElem?_eq_getElem _⟩
      obtain ⟨b, o, rfl, _⟩ := HL.out.some (by omega)
      obtain ⟨vk, vv, d0, d1, hc⟩ := HCMP.out wr b o _ p rfl HB.out hp
      have HCC := hid hc
      have HP := hid hp
      clear hc hp
      obtain ⟨h, hh⟩ : ∃ h, (lo + hi) / 2 = h := ⟨_, rfl⟩
      rw [hh] at d0 d1 HP hml
      have hh1 : ((lo : Int) + (hi : Int)) / 2 = (h : Int) := by omega
      have hlt' : (lo : Int) < (hi : Int) := by omega
      have HH := hid hh
      clear hh
      by_cases hyx : cmpB p.key k < 0
      · have HLT := hid ((cmpB_neg _ _).1 hyx)
        have hyx' : decide (cmpB p.key k < 0) = true := by simpa using hyx
        generalize cmpB p.key k = cc at *
        go_wp2_with fail
        refine HCC.out.mono ?_
        rintro e w2 ⟨rfl, hb2⟩
        have HB2 := hid hb2
        clear hb2
        go_wp2_with fail
        have hx := HH.out
        refine ⟨⟨h + 1, hi, by go_num, rfl, by omega, hin, HB2.out, ?_, HI.out.2⟩, by simp [intOf]; omega⟩
        intro t q ht hq
        by_cases e : t = h
        · subst e
          rw [HP.out] at hq
          obtain rfl : p = q := by simpa using hq
          exact HLT.out
        · exact lessB_trans _ _ _ (sorted_lt HS.out (show t < h by omega) hq HP.out) HLT.out
      · have HLT := hid (fun h => hyx ((cmpB_neg p.key k).2 h))
        have hyx' : decide (cmpB p.key k < 0) = false := by simpa using hyx
        generalize cmpB p.key k = cc at *
        go_wp2_with fail
        refine HCC.out.mono ?_
        rintro e w2 ⟨rfl, hb2⟩
        have HB2 := hid hb2
        clear hb2
        go_wp2_with fail
        have hx := HH.out
        refine ⟨⟨lo, h, rfl, by go_num, by omega, by omega, HB2.out, HI.out.1, ?_⟩, by simp [intOf]; omega⟩
        intro t q ht hq
        have hph : lessB p.key k = false := by simpa using HLT.out
        by_cases e : t = h
        · subst e
          rw [HP.out] at hq
          obtain rfl : p = q := by simpa using hq
          exact hph
        · cases hqq : lessB q.key k with
          | false => rfl
          | true =>
            have := lessB_trans _ _ _ (sorted_lt HS.out (show h < t by omega) HP.out hq) hqq
            rw [hph] at this
            cases this
    · obtain rfl : hi = lo := by omega
      have hge : decide ((hi : Int) < (hi : Int)) = false := by simp
      by_cases hn : hi < n
      · obtain ⟨p, hp⟩ : ∃ p, l[hi]? = some p := ⟨l[hi]'(by rw [HN.out]; exact hn), List.getElem?_eq_getElem _⟩
        obtain ⟨b, o, rfl, _⟩ := HL.out.some (by omega)
        obtain ⟨vk, vv, d0, d1, hc⟩ := HCMP.out wr b o _ p rfl HB.out hp
        have HCC := hid hc
        have hlt' : (hi : Int) < (n : Int) := by omega
        have hlt2 : decide ((hi : Int) < (n : Int)) = true := by simpa using hlt'
        obtain ⟨fd, hfd⟩ : ∃ fd, decide (cmpB p.key k = 0) = fd := ⟨_, rfl⟩
        have HAT := hid (show At k l hi fd from ⟨by rw [HN.out]; exact hin, HI.out.1, HI.out.2, by
          rw [← hfd, decide_eq_true_eq, cmpB_zero]
          constructor
          · intro h
            exact ⟨p, hp, h⟩
          · rintro ⟨q, hq, h⟩
            rw [hp] at hq
            obtain rfl : p = q := by simpa using hq
            exact h⟩)
        clear hc hp
        generalize cmpB p.key k = cc at *
        go_wp2_with fail
        refine HCC.out.mono ?_
        rintro e w2 ⟨rfl, hb2⟩
        have HB2 := hid hb2
        clear hb2
        go_wp2
        go_ret2
        exact ⟨HB2.out, hi, fd, HAT.out, by rw [← hfd]; rfl⟩
      · have hlt2 : decide ((hi : Int) < (n : Int)) = false := by simp; omega
        have HAT := hid (show At k l hi false from ⟨by rw [HN.out]; exact hin, HI.out.1, HI.out.2, by
          constructor
          · intro h
            cases h
          · rintro ⟨q, hq, h⟩
            have := (List.getElem?_eq_some_iff.1 hq).1
            rw [HN.out] at this
            omega⟩)
        go_wp2
        go_ret2
        exact ⟨HB.out, hi, false, HAT.out, rfl⟩
theorem find_any (l : List Pr) (k : List (BitVec 8)) (sv kv : Value) (N : Nat) (w : World) (hN : N ≤ w.heap.size) (hl : Pairs w N sv l) (hk : Bytes w N kv k) (hs : Sorted l) (hlen : l.length ≤ 1000000) :
    Calls Tryd.prog 54 #[sv, kv] w fun e w' => Below w.heap.size w w' ∧ ∃ i fd, At k l i fd ∧ e = .returned (.tuple #[.int .i64 (i : Nat), .bool fd]) := by
  obtain ⟨oa, ca, rfl, hca⟩ := hl.shape
  obtain ⟨ob, cb, rfl, hcb⟩ := hk.shape
  have HC := hid (search_any l k _ _ N w #[] rfl hN hl hk hs hlen)
  clear hl hk
  go_enter Tryd.func54, Tryd.ntmps54
  go_wp2_with fail
  refine HC.out.mono ?_
  rintro e w2 ⟨hb, i, fd, hat, rfl⟩
  have HB := hid hb
  have HA := hid hat
  clear hb hat
  go_wp2
  go_ret2
  exact ⟨HB.out, i, fd, HA.out, rfl⟩
end Go.Proofs.YtooemgkjkngpcaaDoor
namespace Go.Proofs.YtooemgkjkngpcaaDoor
open Go.RowKit

def pout (l : List Dg) : List Pr := match playL l with | .ok x => x | .error _ => []
def pcode (l : List Dg) : Int × Nat := match playL l with | .ok _ => (0, 0) | .error e => e
def rout (l : List Pr) : List (BitVec 8) := if (wrongL l).1 = 0 then topD l.length (treeD l) else []
/-- Play's answer -/
def PlayC (f : FuncId) : Prop := ∀ (l : List Dg) (sv : Value) (N : Nat) (w : World), Doings w N sv l → N ≤ w.heap.size → l.length < 2305843009213693952 → (∀ d ∈ l, d.fits) →
  Calls Tryd.prog f #[sv] w fun e w' => Below w.heap.size w w' ∧ ∃ ov nv cv, e = .returned (.tuple #[.slice ov nv cv, faultV (pcode l).1 (pcode l).2]) ∧ Pairs w' w'.heap.size (.slice ov nv cv) (pout l)
/-- Wrong's answer -/
def WrongC (f : FuncId) : Prop := ∀ (l : List Pr) (sv : Value) (N : Nat) (w : World), Pairs w N sv l → N ≤ w.heap.size → l.length < 2305843009213693952 → (∀ p ∈ l, p.fits) →
  Calls Tryd.prog f #[sv] w fun e w' => Below w.heap.size w w' ∧ e = .returned (faultV (wrongL l).1 (wrongL l).2)
/-- Get's answer, of a book -/
def GetC (f : FuncId) : Prop := ∀ (l : List Pr) (k : List (BitVec 8)) (sv kv : Value) (N : Nat) (w : World), N ≤ w.heap.size → Pairs w N sv l → Bytes w N kv k → Sorted l → Fits l → l.length ≤ 200 → k.length ≤ 140737488351232 →
  Calls Tryd.prog f #[sv, kv] w fun e w' => Below w.heap.size w w' ∧ ∃ ov nv cv, e = .returned (.tuple #[.slice ov nv cv, .bool (getL k l).isSome]) ∧ Bytes w' w'.heap.size (.slice ov nv cv) ((getL k l).getD [])
theorem Pairs.nil (w : World) (N : Nat) : Pairs w N (.slice none 0 0) [] := .inl ⟨rfl, rfl⟩
theorem wrongGo_zero : ∀ (l : List Pr) (i : Nat) (prev : Option (List (BitVec 8))), (wrongGo i prev l).1 = 0 → (wrongGo i prev l).2 = 0 := by
  intro l
  induction l with
  | nil => intro i prev _; rfl
  | cons p r ih =>
    intro i prev h
    rw [wrongGo] at h ⊢
    split at h
    · simp at h
    · split at h
      · simp at h
      · rename_i h1 h2
        rw [if_neg h1, if_neg h2]
        exact ih _ _ h
theorem wrongL_zero (l : List Pr) (h : (wrongL l).1 = 0) : wrongL l = (0, 0) := by
  have h2 : (wrongL l).2 = 0 := by
    unfold wrongL at h ⊢
    split at h
    · simp at h
    · rename_i h1
      rw [if_neg h1]
      exact wrongGo_zero _ _ _ h
  exact Prod.ext h h2
theorem wrongL_sorted (l : List Pr) (h : (wrongL l).1 = 0) : Sorted l ∧ Fits l ∧ l.length ≤ 200 := by
  have e := wrongL_zero l h
  unfold wrongL at e
  split at e
  · simp at e
  · obtain ⟨h1, h2, _⟩ := wrongGo_ok l 0 none 0 e
    exact ⟨h1, h2, by omega⟩
theorem fits_of {l : List Pr} (h : Fits l) : ∀ p ∈ l, p.fits := fun p hp => by have := h p hp; exact ⟨by omega, by omega⟩
theorem pout_book (l : List Dg) : Sorted (pout l) ∧ Fits (pout l) ∧ (pout l).length ≤ 200 := by
  unfold pout
  cases h : playL l with
  | ok x => exact playL_book l x h
  | error e => exact ⟨List.Pairwise.nil, (fun _ hp => by cases hp), Nat.zero_le _⟩
end Go.Proofs.YtooemgkjkngpcaaDoor
namespace Go.Proofs.YtooemgkjkngpcaaDoor
open Go.RowKit

theorem tooMuch_any (n m : Nat) (oa ob : Option Addr) (ca cb : Nat) (w : World) :
    Calls Tryd.prog 32 #[.slice oa n ca, .slice ob m cb] w fun e w' => e = .returned (.bool (decide (60 < n) || decide (200 < m))) ∧ w' = w := by
  go_enter Tryd.func32, Tryd.ntmps32
  by_cases h1 : 60 < n
  · have e1 : decide ((60 : Int) < (n : Int)) = true := by simp; omega
    go_wp2
    go_ret
    exact ⟨by simp [h1], rfl⟩
  · have e1 : decide ((60 : Int) < (n : Int)) = false := by simp; omega
    by_cases h2 : 200 < m
    · have e2 : decide ((200 : Int) < (m : Int)) = true := by simp; omega
      go_wp2
      go_ret
      exact ⟨by simp [h1, h2], rfl⟩
    · have e2 : decide ((200 : Int) < (m : Int)) = false := by simp; omega
      go_wp2
      go_ret
      exact ⟨by simp [h1, h2], rfl⟩
end Go.Proofs.YtooemgkjkngpcaaDoor
