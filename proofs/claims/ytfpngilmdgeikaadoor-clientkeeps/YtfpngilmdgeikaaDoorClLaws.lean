/-
  Plain mathematics of the laws of clients: what is followed twice, by way of another block, or voted for. No function of the program is named here.
-/
import Derived.Test.YtfpngilmdgeikaaDoorClMath
namespace Go.Proofs.YtfpngilmdgeikaaDoor

theorem follow_yes {c : Cl} {u : Up} {now : Int} (h : followE c u now = 0) : followC c u now = learnC c (knOf u.sg.hd) := by unfold followC; rw [if_pos h]
theorem follow_no {c : Cl} {u : Up} {now : Int} (h : followE c u now ≠ 0) : followC c u now = Cl.none := by unfold followC; rw [if_neg h]
theorem follow_right {c : Cl} {u : Up} {now : Int} (h : followE c u now = 0) : wrongCl c = 0 ∧ wrongK (knOf u.sg.hd) = 0 ∧ wrongCl (followC c u now) = 0 := by
  obtain ⟨h1, h2⟩ := followE_ok h
  have hc := (askedN_ok h1).1
  have hk := knOf_right (checkN_right (believeN_ok h2).1).1
  exact ⟨hc, hk, by rw [follow_yes h]; exact learn_right hc hk⟩
theorem knOf_fits {h : Hd} (e : h.fits) : (knOf h).fits := ⟨e.2.1, e.2.2.2⟩
theorem follow_fits {c : Cl} {u : Up} {now : Int} (hc : c.fits) (hu : u.fits) : (followC c u now).fits := by
  by_cases h : followE c u now = 0
  · rw [follow_yes h]
    obtain ⟨_, _, h3, _, h5⟩ := (wrongCl_iff c).1 (follow_right h).1
    exact learn_fits hc (knOf_fits hu.1.1) h3.2 h5
  · rw [follow_no h]
    exact Cl.none_fits
/-- what is told twice is known once -/
theorem follow_twice {c : Cl} {u : Up} {now : Int} (h : followE c u now = 0) (hf : (followC c u now).frozen = false) (ha : (atK (followC c u now).known u.sg.hd.height).isSome = true) :
    (atK (followC c u now).known u.frm = none → followE (followC c u now) u now = 6) ∧ ((atK (followC c u now).known u.frm).isSome = true → followE (followC c u now) u now = 0 ∧ followC (followC c u now) u now = followC c u now) := by
  obtain ⟨hc, hk, hd⟩ := follow_right h
  obtain ⟨h1, h2⟩ := followE_ok h
  obtain ⟨hck, k0, hat0, hb0⟩ := believeN_ok h2
  have hnow := (askedN_ok h1).2.1
  have hask := askedN_of (now := now) hd hnow hf
  obtain ⟨_, _, h30, _, hris⟩ := (wrongCl_iff c).1 hc
  rw [follow_yes h] at hf ha hd hask ⊢
  have hE : followE (learnC c (knOf u.sg.hd)) u now = believeN (learnC c (knOf u.sg.hd)) u now := by unfold followE; rw [if_neg (by omega)]
  have hself : atK (learnC c (knOf u.sg.hd)).known (knOf u.sg.hd).height = some (knOf u.sg.hd) := by
    rcases learn_known (k := knOf u.sg.hd) hris h30.2 with e | e | ⟨e, _⟩
    · rw [hf] at e; cases e
    · exact e
    · rw [show (knOf u.sg.hd).height = u.sg.hd.height from rfl] at e
      rw [e] at ha
      cases ha
  constructor
  · intro hn
    rw [hE]
    unfold believeN
    rw [if_neg (by omega), hn]
  · intro hs
    obtain ⟨x, hx⟩ : ∃ x, atK (learnC c (knOf u.sg.hd)).known u.frm = some x := Option.isSome_iff_exists.1 hs
    have hxk : x = k0 := by
      obtain ⟨e1, e2⟩ := atK_some hx
      obtain ⟨g1, g2⟩ := atK_some hat0
      have hlt := (believeAt_ok hb0).2.2.1
      rcases learn_mem e1 with rfl | e1
      · exfalso
        rw [show (knOf u.sg.hd).height = u.sg.hd.height from rfl] at e2
        omega
      · exact hris.eq e1 g1 (by omega)
    have hz : followE (learnC c (knOf u.sg.hd)) u now = 0 := by
      rw [hE]
      unfold believeN
      rw [if_neg (by omega), hx]
      simp only
      rw [hxk]
      unfold believeAt at hb0 ⊢
      rw [learn_same.1, learn_same.2]
      exact hb0
    refine ⟨hz, ?_⟩
    unfold followC
    rw [if_pos hz, learn_again hf hself]
theorem learn_length {c : Cl} {k : Kn} (hs : Rising c.known) : (learnC c k).known.length ≤ c.known.length + 1 := by
  unfold learnC
  cases e : atK c.known k.height with
  | some o => simp
  | none =>
    simp only
    split
    · simp only
      have h1 := put_length hs (atK_none e)
      have : (cutK (putK c.known k)).length ≤ (putK c.known k).length := by
        unfold cutK
        split
        · simp
        · exact Nat.le_refl _
      omega
    · simp
/-- what is followed is known, where there is room -/
theorem follow_known {c : Cl} {u : Up} {now : Int} (h : followE c u now = 0) (hf : (followC c u now).frozen = false) (hl : c.known.length < 30) : atK (followC c u now).known u.sg.hd.height = some (knOf u.sg.hd) := by
  obtain ⟨hc, _, _⟩ := follow_right h
  obtain ⟨_, _, h30, _, hris⟩ := (wrongCl_iff c).1 hc
  rw [follow_yes h] at hf ⊢
  rcases learn_known (k := knOf u.sg.hd) hris h30.2 with e | e | ⟨_, e⟩
  · rw [hf] at e; cases e
  · exact e
  · omega
theorem follow_length {c : Cl} {u : Up} {now : Int} (h : followE c u now = 0) : (followC c u now).known.length ≤ c.known.length + 1 := by
  obtain ⟨hc, _, _⟩ := follow_right h
  obtain ⟨_, _, _, _, hris⟩ := (wrongCl_iff c).1 hc
  rw [follow_yes h]
  exact learn_length hris
/-- .. by way of another block, or at once -/
theorem follow_ways {c : Cl} {a b : Up} {now : Int} (h1 : followE c a now = 0) (hl : c.known.length + 2 ≤ 30) (h2 : followE (followC c a now) { b with frm := a.sg.hd.height } now = 0) (h3 : followE c b now = 0)
    (f2 : (followC (followC c a now) { b with frm := a.sg.hd.height } now).frozen = false) (f3 : (followC c b now).frozen = false) :
    atK (followC (followC c a now) { b with frm := a.sg.hd.height } now).known b.sg.hd.height = some (knOf b.sg.hd) ∧ atK (followC c b now).known b.sg.hd.height = some (knOf b.sg.hd) := by
  have := follow_length h1
  exact ⟨follow_known (u := { b with frm := a.sg.hd.height }) h2 f2 (by omega), follow_known h3 f3 (by omega)⟩
/-- what is known stays known -/
theorem follow_keeps {c : Cl} {u : Up} {now : Int} (h : followE c u now = 0) {x : Kn} {i : Nat} (hx : c.known[i]? = some x) : atK (followC c u now).known x.height = some x ∨ (atK (followC c u now).known x.height = none ∧ i = 0 ∧ c.known.length = 30) := by
  obtain ⟨hc, _, _⟩ := follow_right h
  obtain ⟨_, _, h30, _, hris⟩ := (wrongCl_iff c).1 hc
  rw [follow_yes h]
  exact learn_keeps hris h30.2 hx
theorem follow_there {c : Cl} {u : Up} {now : Int} (h : followE c u now = 0) : (followC c u now).frozen = true ∨ atK (followC c u now).known u.sg.hd.height = some (knOf u.sg.hd) ∨ (atK (followC c u now).known u.sg.hd.height = none ∧ c.known.length = 30) := by
  obtain ⟨hc, _, _⟩ := follow_right h
  obtain ⟨_, _, h30, _, hris⟩ := (wrongCl_iff c).1 hc
  rw [follow_yes h]
  exact learn_known (k := knOf u.sg.hd) hris h30.2
theorem follow_same {c : Cl} {u : Up} {now : Int} (h : followE c u now = 0) : (followC c u now).chain = c.chain ∧ (followC c u now).trust = c.trust := by
  rw [follow_yes h]
  exact learn_same
/-- what is followed was voted for -/
theorem follow_voted {c : Cl} {u : Up} {now : Int} (h : followE c u now = 0) : checkN u.sg = 0 ∧ ∃ k, atK c.known u.frm = some k ∧ k.height = u.frm ∧ u.sg.hd.chain = c.chain ∧ now - k.time < c.trust ∧ u.frm < u.sg.hd.height ∧ k.time < u.sg.hd.time ∧
    ((u.sg.hd.height = u.frm + 1 ∧ u.sg.hd.vals = k.next) ∨ (u.sg.hd.height ≠ u.frm + 1 ∧ valsN u.trusted = 0 ∧ digV u.trusted = k.next ∧ overB u.trusted u.sg = true)) := by
  obtain ⟨h1, h2⟩ := followE_ok h
  obtain ⟨hck, k0, hat0, hb0⟩ := believeN_ok h2
  obtain ⟨e1, e2, e3, e4, e5⟩ := believeAt_ok hb0
  obtain ⟨_, e6⟩ := atK_some hat0
  rw [e6] at e3 e5
  exact ⟨hck, k0, hat0, e6, e1, e2, e3, e4, e5⟩
end Go.Proofs.YtfpngilmdgeikaaDoor
