/-
  Plain facts: what is signed is good just if more than two thirds have voted; four validators of four seeds.
-/
import Derived.Test.YtfpngilmdgeikaaDoorHdMath
import Derived.Test.YtfpngilmdgeikaaDoorSealFacts
namespace Go.Proofs.YtfpngilmdgeikaaDoor

theorem lastSeed_key {seeds : List (List (BitVec 8))} {k : Nat} {s : List (BitVec 8)} (h : lastSeed seeds k = some s) : keyN s = k := by
  have := List.find?_some h
  simpa using this
theorem goodAll_votes (seeds : List (List (BitVec 8))) (m : List (BitVec 8)) : ∀ l : List Vl, goodAll m l (votesOf seeds m l) = true
  | [] => rfl
  | v :: l => by
    have ih := goodAll_votes seeds m l
    have e : votesOf seeds m (v :: l) = voteOf seeds m v.key :: votesOf seeds m l := rfl
    rw [e, goodAll, ih, Bool.and_true]
    unfold voteOf
    split
    · rfl
    · rename_i s hs
      have hk := lastSeed_key hs
      have := (goodB_iff (keyN s) m (sealR s m) (sealS s m)).2 (good_sign s m)
      rw [hk] at this
      simp [this]
theorem votesOf_length (seeds : List (List (BitVec 8))) (m : List (BitVec 8)) (l : List Vl) : (votesOf seeds m l).length = l.length := by simp [votesOf]
theorem check_sign {h : Hd} {l : List Vl} (seeds : List (List (BitVec 8))) (e : togetherN h l = 0) : checkN ⟨h, l, votesOf seeds (bytesH h) l⟩ = if 3 * yesP l (votesOf seeds (bytesH h) l) ≤ 2 * allP l then 10 else 0 := by
  unfold checkN
  simp only
  rw [if_neg (by rw [e]; simp), if_neg (by rw [votesOf_length]; simp), if_neg (by rw [goodAll_votes]; simp)]
/-- has a seed this key -/
def hasKey (seeds : List (List (BitVec 8))) (k : Nat) : Bool := seeds.any fun s => decide (keyN s = k)
theorem voteOf_is (seeds : List (List (BitVec 8))) (m : List (BitVec 8)) (k : Nat) : (voteOf seeds m k).is = hasKey seeds k := by
  unfold voteOf hasKey
  cases hl : lastSeed seeds k with
  | none =>
    unfold lastSeed at hl
    rw [List.find?_eq_none] at hl
    symm
    show (seeds.any fun s => decide (keyN s = k)) = false
    rw [List.any_eq_false]
    intro x hx
    exact hl x (List.mem_reverse.2 hx)
  | some s =>
    symm
    show (seeds.any fun s => decide (keyN s = k)) = true
    rw [List.any_eq_true]
    exact ⟨s, List.mem_reverse.1 (List.mem_of_find?_eq_some hl), by simpa using lastSeed_key hl⟩
/-- the power of those whose keys seeds have -/
def keyP (seeds : List (List (BitVec 8))) : List Vl → Nat
  | [] => 0
  | v :: l => (if hasKey seeds v.key then v.power else 0) + keyP seeds l
theorem yes_keys (seeds : List (List (BitVec 8))) (m : List (BitVec 8)) : ∀ l : List Vl, yesP l (votesOf seeds m l) = keyP seeds l
  | [] => rfl
  | v :: l => by
    have e : votesOf seeds m (v :: l) = voteOf seeds m v.key :: votesOf seeds m l := rfl
    rw [e, yesP, yes_keys seeds m l, voteOf_is, keyP]
theorem keyP_le (seeds : List (List (BitVec 8))) : ∀ l : List Vl, keyP seeds l ≤ allP l
  | [] => by simp [keyP]
  | v :: l => by
    have ih := keyP_le seeds l
    simp [keyP, allP] at ih ⊢
    split <;> omega

theorem secret_0 : secretN [0] = 297070392688968435 := by decide +kernel
theorem secret_1 : secretN [1] = 105295852020117651 := by decide +kernel
theorem secret_2 : secretN [2] = 388182179978904730 := by decide +kernel
theorem secret_3 : secretN [3] = 166504352370556363 := by decide +kernel
theorem key_0 : keyN [0] = 808982515141112397 := by
  unfold keyN
  rw [secret_0, powP_powm _ _ (by decide)]
  decide +kernel
theorem key_1 : keyN [1] = 1017209686467113334 := by
  unfold keyN
  rw [secret_1, powP_powm _ _ (by decide)]
  decide +kernel
theorem key_2 : keyN [2] = 408109533465520751 := by
  unfold keyN
  rw [secret_2, powP_powm _ _ (by decide)]
  decide +kernel
theorem key_3 : keyN [3] = 609286541298286014 := by
  unfold keyN
  rw [secret_3, powP_powm _ _ (by decide)]
  decide +kernel
/-- how many keys ahead are less -/
def rankV (l : List Vl) (key : Nat) : Nat := (l.takeWhile fun x => decide (x.key < key)).length
def insV (l : List Vl) (v : Vl) : List Vl := l.take (rankV l v.key) ++ [v] ++ l.drop (rankV l v.key)
def fourV (p : Nat) : Nat → List Vl
  | 0 => []
  | m + 1 => insV (fourV p m) ⟨keyN [BitVec.ofNat 8 m], p⟩
def seedsV : Nat → List (List (BitVec 8))
  | 0 => []
  | m + 1 => seedsV m ++ [[BitVec.ofNat 8 m]]
theorem fourV_four : fourV 1 4 = [⟨408109533465520751, 1⟩, ⟨609286541298286014, 1⟩, ⟨808982515141112397, 1⟩, ⟨1017209686467113334, 1⟩] := by
  have e0 : keyN [BitVec.ofNat 8 0] = 808982515141112397 := key_0
  have e1 : keyN [BitVec.ofNat 8 1] = 1017209686467113334 := key_1
  have e2 : keyN [BitVec.ofNat 8 2] = 408109533465520751 := key_2
  have e3 : keyN [BitVec.ofNat 8 3] = 609286541298286014 := key_3
  unfold fourV fourV fourV fourV fourV
  rw [e0, e1, e2, e3]
  rfl
theorem fourV_length (p : Nat) : ∀ m, (fourV p m).length = m
  | 0 => rfl
  | m + 1 => by
    have ih := fourV_length p m
    have hr : rankV (fourV p m) (keyN [BitVec.ofNat 8 m]) ≤ (fourV p m).length := (List.takeWhile_prefix _).length_le
    unfold fourV insV
    simp
    omega
theorem fourV_ok : ∀ m, ∀ v ∈ fourV 1 m, v.ok
  | 0 => by simp [fourV]
  | m + 1 => by
    intro v hv
    unfold fourV insV at hv
    simp only [List.mem_append, List.mem_singleton] at hv
    rcases hv with (hv | rfl) | hv
    · exact fourV_ok m v (List.mem_of_mem_take hv)
    · exact ⟨by have := keyN_lt [BitVec.ofNat 8 m]; simp only; omega, by simp⟩
    · exact fourV_ok m v (List.mem_of_mem_drop hv)
theorem four_right : valsN (fourV 1 4) = 0 := by rw [fourV_four]; rfl
theorem four_all : allP (fourV 1 4) = 4 := by rw [fourV_four]; rfl
def numP (ks : List Nat) : List Vl → Nat
  | [] => 0
  | v :: l => (if (ks.any fun k => decide (k = v.key)) then v.power else 0) + numP ks l
theorem keyP_num (seeds : List (List (BitVec 8))) : ∀ l : List Vl, keyP seeds l = numP (seeds.map keyN) l
  | [] => rfl
  | v :: l => by
    have e : hasKey seeds v.key = ((seeds.map keyN).any fun k => decide (k = v.key)) := by unfold hasKey; rw [List.any_map]; rfl
    rw [keyP, numP, e, keyP_num seeds l]
theorem map3 (a b c : List (BitVec 8)) {x y z : Nat} (h1 : keyN a = x) (h2 : keyN b = y) (h3 : keyN c = z) : [a, b, c].map keyN = [x, y, z] := by subst h1 h2 h3; rfl
theorem map2 (a b : List (BitVec 8)) {x y : Nat} (h1 : keyN a = x) (h2 : keyN b = y) : [a, b].map keyN = [x, y] := by subst h1 h2; rfl
theorem four_three : keyP [[0], [1], [2]] (fourV 1 4) = 3 := by
  rw [keyP_num, map3 [0] [1] [2] key_0 key_1 key_2, fourV_four]
  rfl
theorem four_two : keyP [[0], [1]] (fourV 1 4) = 2 := by
  rw [keyP_num, map2 [0] [1] key_0 key_1, fourV_four]
  rfl
def blockH (l : List Vl) : Hd := ⟨⟨#[97]⟩, 1, 5, digV l, digV l, digV l⟩
theorem block_right (l : List Vl) : wrongH (blockH l) = 0 := by
  unfold wrongH blockH
  simp only [digV_length]
  rw [if_neg (by decide), if_neg (by decide), if_neg (by decide)]
theorem block_together : togetherN (blockH (fourV 1 4)) (fourV 1 4) = 0 := by
  unfold togetherN
  rw [if_neg (by rw [block_right]; simp), if_neg (by rw [four_right]; simp), if_pos (show (blockH (fourV 1 4)).vals = digV (fourV 1 4) from rfl)]
theorem block_three : checkN ⟨blockH (fourV 1 4), fourV 1 4, votesOf [[0], [1], [2]] (bytesH (blockH (fourV 1 4))) (fourV 1 4)⟩ = 0 := by
  rw [check_sign _ block_together, yes_keys, four_three, four_all]
  rfl
theorem block_two : checkN ⟨blockH (fourV 1 4), fourV 1 4, votesOf [[0], [1]] (bytesH (blockH (fourV 1 4))) (fourV 1 4)⟩ = 10 := by
  rw [check_sign _ block_together, yes_keys, four_two, four_all]
  rfl
end Go.Proofs.YtfpngilmdgeikaaDoor
