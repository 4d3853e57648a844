/-
  States with one book are alike.
-/
import Derived.Test.YtooemgkjkngpcaaDoorStMath
namespace Go.Proofs.YtooemgkjkngpcaaDoor
open Go.RowKit

def bareCh (c : Ch) : Ch := { c with send := 0, ack := 0 }
/-- alike but for what is not shown -/
structure Alike (s t : St) : Prop where
  conns : s.conns = t.conns
  chans : s.chans.map bareCh = t.chans.map bareCh
  sent : s.sent = t.sent
  got : s.got = t.got
  acks : s.acks = t.acks
theorem ch_bare : ∀ (l : List Ch) (i : Nat), (l.zipIdx i).flatMap entCh = ((l.map bareCh).zipIdx i).flatMap entCh
  | [], _ => rfl
  | c :: l, i => by rw [List.zipIdx_cons, List.flatMap_cons, List.map_cons, List.zipIdx_cons, List.flatMap_cons, ch_bare l (i + 1)]; rfl
theorem alike_entries {s t : St} (h : Alike s t) : entries s = entries t := by
  unfold entries
  rw [h.conns, ch_bare s.chans 0, h.chans, ← ch_bare t.chans 0, h.sent, h.got, h.acks]
theorem ent_cases {t : St} {e : Dg} (he : e ∈ entries t) : (Kind kwConn e ∧ ∃ x ∈ t.conns.zipIdx, e = entCn x) ∨ (Kind kwChan e ∧ ∃ x ∈ t.chans.zipIdx, e = ⟨keyL kwChan [x.2], chanB x.1, false⟩) ∨ (Kind kwNext e ∧ ∃ x ∈ t.chans.zipIdx, e = ⟨keyL kwNext [x.2], numsB [x.1.recv], false⟩) ∨ (∃ x ∈ t.sent, e = entMk kwSent x) ∨ (∃ x ∈ t.got, e = entMk kwGot x) ∨ ∃ x ∈ t.acks, e = entMk kwAck x := by
  unfold entries at he
  simp only [List.mem_append] at he
  rcases he with he | he | he | he | he
  · obtain ⟨x, hx, rfl⟩ := List.mem_map.1 he
    exact .inl ⟨⟨_, rfl⟩, x, hx, rfl⟩
  · obtain ⟨x, hx, he⟩ := List.mem_flatMap.1 he
    simp only [entCh, List.mem_cons, List.not_mem_nil, or_false] at he
    rcases he with rfl | rfl
    · exact .inr (.inl ⟨⟨_, rfl⟩, x, hx, rfl⟩)
    · exact .inr (.inr (.inl ⟨⟨_, rfl⟩, x, hx, rfl⟩))
  · obtain ⟨x, hx, rfl⟩ := List.mem_map.1 he
    exact .inr (.inr (.inr (.inl ⟨x, hx, rfl⟩)))
  · obtain ⟨x, hx, rfl⟩ := List.mem_map.1 he
    exact .inr (.inr (.inr (.inr (.inl ⟨x, hx, rfl⟩))))
  · obtain ⟨x, hx, rfl⟩ := List.mem_map.1 he
    exact .inr (.inr (.inr (.inr (.inr ⟨x, hx, rfl⟩))))

theorem sent_half {s t : St} (hs : Right s) (ht : Right t) (h : ∀ p ∈ (entries s).map prOf, p ∈ (entries t).map prOf) : ∀ m ∈ s.sent, m ∈ t.sent := by
  intro m hm
  have hd : prOf (entMk kwSent m) ∈ (entries s).map prOf := List.mem_map_of_mem (by unfold entries; simp only [List.mem_append]; exact .inr (.inr (.inl (List.mem_map_of_mem hm))))
  obtain ⟨e, he, hpe⟩ := List.mem_map.1 (h _ hd)
  obtain ⟨hk, hv⟩ : e.key = (entMk kwSent m).key ∧ e.val = m.dig := ⟨congrArg Pr.key hpe, congrArg Pr.val hpe⟩
  have hK : Kind kwSent e := ⟨_, hk⟩
  have hc := ent_cases he
  obtain ⟨x, hx, rfl⟩ : ∃ x ∈ t.sent, e = entMk kwSent x := by
    rcases hc with hc | hc | hc | ⟨x, hx, rfl⟩ | ⟨x, hx, rfl⟩ | ⟨x, hx, rfl⟩
    · exact absurd rfl (kind_apart bSent bConn (by decide) hK hc.1)
    · exact absurd rfl (kind_apart bSent bChan (by decide) hK hc.1)
    · exact absurd rfl (kind_apart bSent bNext (by decide) hK hc.1)
    · exact ⟨x, hx, rfl⟩
    · exact absurd rfl (kind_apart bSent bGot (by decide) hK ⟨_, rfl⟩)
    · exact absurd rfl (kind_apart bSent bAck (by decide) hK ⟨_, rfl⟩)
  have h1 := (keyL_inj _ _ _ _ bSent bSent hk).2
  have g1 := wrongMk_ok (hs.sent.1 m hm)
  have g2 := wrongMk_ok (ht.sent.1 x hx)
  simp only [List.cons.injEq, and_true] at h1
  have e1 : x.chan = m.chan := by omega
  have e2 : x.seq = m.seq := by omega
  have : x = m := by cases x; cases m; simp_all [entMk]
  rw [← this]
  exact hx
theorem got_half {s t : St} (hs : Right s) (ht : Right t) (h : ∀ p ∈ (entries s).map prOf, p ∈ (entries t).map prOf) : ∀ m ∈ s.got, m ∈ t.got := by
  intro m hm
  have hd : prOf (entMk kwGot m) ∈ (entries s).map prOf := List.mem_map_of_mem (by unfold entries; simp only [List.mem_append]; exact .inr (.inr (.inr (.inl (List.mem_map_of_mem hm)))))
  obtain ⟨e, he, hpe⟩ := List.mem_map.1 (h _ hd)
  obtain ⟨hk, hv⟩ : e.key = (entMk kwGot m).key ∧ e.val = m.dig := ⟨congrArg Pr.key hpe, congrArg Pr.val hpe⟩
  have hK : Kind kwGot e := ⟨_, hk⟩
  have hc := ent_cases he
  obtain ⟨x, hx, rfl⟩ : ∃ x ∈ t.got, e = entMk kwGot x := by
    rcases hc with hc | hc | hc | ⟨x, hx, rfl⟩ | ⟨x, hx, rfl⟩ | ⟨x, hx, rfl⟩
    · exact absurd rfl (kind_apart bGot bConn (by decide) hK hc.1)
    · exact absurd rfl (kind_apart bGot bChan (by decide) hK hc.1)
    · exact absurd rfl (kind_apart bGot bNext (by decide) hK hc.1)
    · exact absurd rfl (kind_apart bGot bSent (by decide) hK ⟨_, rfl⟩)
    · exact ⟨x, hx, rfl⟩
    · exact absurd rfl (kind_apart bGot bAck (by decide) hK ⟨_, rfl⟩)
  have h1 := (keyL_inj _ _ _ _ bGot bGot hk).2
  have g1 := wrongMk_ok (hs.got.1 m hm)
  have g2 := wrongMk_ok (ht.got.1 x hx)
  simp only [List.cons.injEq, and_true] at h1
  have e1 : x.chan = m.chan := by omega
  have e2 : x.seq = m.seq := by omega
  have : x = m := by cases x; cases m; simp_all [entMk]
  rw [← this]
  exact hx
theorem acks_half {s t : St} (hs : Right s) (ht : Right t) (h : ∀ p ∈ (entries s).map prOf, p ∈ (entries t).map prOf) : ∀ m ∈ s.acks, m ∈ t.acks := by
  intro m hm
  have hd : prOf (entMk kwAck m) ∈ (entries s).map prOf := List.mem_map_of_mem (by unfold entries; simp only [List.mem_append]; exact .inr (.inr (.inr (.inr (List.mem_map_of_mem hm)))))
  obtain ⟨e, he, hpe⟩ := List.mem_map.1 (h _ hd)
  obtain ⟨hk, hv⟩ : e.key = (entMk kwAck m).key ∧ e.val = m.dig := ⟨congrArg Pr.key hpe, congrArg Pr.val hpe⟩
  have hK : Kind kwAck e := ⟨_, hk⟩
  have hc := ent_cases he
  obtain ⟨x, hx, rfl⟩ : ∃ x ∈ t.acks, e = entMk kwAck x := by
    rcases hc with hc | hc | hc | ⟨x, hx, rfl⟩ | ⟨x, hx, rfl⟩ | ⟨x, hx, rfl⟩
    · exact absurd rfl (kind_apart bAck bConn (by decide) hK hc.1)
    · exact absurd rfl (kind_apart bAck bChan (by decide) hK hc.1)
    · exact absurd rfl (kind_apart bAck bNext (by decide) hK hc.1)
    · exact absurd rfl (kind_apart bAck bSent (by decide) hK ⟨_, rfl⟩)
    · exact absurd rfl (kind_apart bAck bGot (by decide) hK ⟨_, rfl⟩)
    · exact ⟨x, hx, rfl⟩
  have h1 := (keyL_inj _ _ _ _ bAck bAck hk).2
  have g1 := wrongMk_ok (hs.acks.1 m hm)
  have g2 := wrongMk_ok (ht.acks.1 x hx)
  simp only [List.cons.injEq, and_true] at h1
  have e1 : x.chan = m.chan := by omega
  have e2 : x.seq = m.seq := by omega
  have : x = m := by cases x; cases m; simp_all [entMk]
  rw [← this]
  exact hx
theorem half_ext {α : Type} {l m : List α} (h1 : ∀ (i : Nat) x, l[i]? = some x → m[i]? = some x) (h2 : ∀ (i : Nat) x, m[i]? = some x → l[i]? = some x) : l = m := by
  apply List.ext_getElem?
  intro i
  cases e : l[i]? with
  | some x => exact (h1 i x e).symm
  | none =>
    cases e' : m[i]? with
    | none => rfl
    | some x => rw [h2 i x e'] at e; cases e
theorem asc_ext : ∀ {l m : List Mk}, (l.Pairwise fun a b => lessMk a b = true) → (m.Pairwise fun a b => lessMk a b = true) → (∀ x, x ∈ l ↔ x ∈ m) → l = m
  | [], [], _, _, _ => rfl
  | [], b :: m, _, _, h => absurd ((h b).2 List.mem_cons_self) (by simp)
  | a :: l, [], _, _, h => absurd ((h a).1 List.mem_cons_self) (by simp)
  | a :: l, b :: m, hl, hm, h => by
    obtain ⟨l1, l2⟩ := List.pairwise_cons.1 hl
    obtain ⟨m1, m2⟩ := List.pairwise_cons.1 hm
    have irr : ∀ x : Mk, lessMk x x = true → False := fun x hx => by simp [lessMk] at hx
    have e : a = b := by
      rcases List.mem_cons.1 ((h a).1 List.mem_cons_self) with e | ha
      · exact e
      rcases List.mem_cons.1 ((h b).2 List.mem_cons_self) with e | hb
      · exact e.symm
      exact (irr _ (lessMk_trans (m1 a ha) (l1 b hb))).elim
    subst e
    rw [asc_ext l2 m2 fun x => ?_]
    constructor
    · intro hx
      rcases List.mem_cons.1 ((h x).1 (List.mem_cons_of_mem _ hx)) with rfl | h'
      · exact (irr _ (l1 x hx)).elim
      · exact h'
    · intro hx
      rcases List.mem_cons.1 ((h x).2 (List.mem_cons_of_mem _ hx)) with rfl | h'
      · exact (irr _ (m1 x hx)).elim
      · exact h'
theorem zip_mem {α : Type} {l : List α} {i : Nat} {c : α} (h : l[i]? = some c) : (c, i) ∈ l.zipIdx := List.mem_zipIdx_iff_getElem?.2 h
theorem conns_half {s t : St} (hs : Right s) (ht : Right t) (h : ∀ p ∈ (entries s).map prOf, p ∈ (entries t).map prOf) : ∀ (i : Nat) c, s.conns[i]? = some c → t.conns[i]? = some c := by
  intro i c hc
  have hd : prOf (entCn (c, i)) ∈ (entries s).map prOf := List.mem_map_of_mem (by unfold entries; simp only [List.mem_append]; exact .inl (List.mem_map_of_mem (zip_mem hc)))
  obtain ⟨e, he, hpe⟩ := List.mem_map.1 (h _ hd)
  obtain ⟨hk, hv⟩ : e.key = keyL kwConn [i] ∧ e.val = connB c := ⟨congrArg Pr.key hpe, congrArg Pr.val hpe⟩
  have hK : Kind kwConn e := ⟨_, hk⟩
  obtain ⟨x, hx, rfl⟩ : ∃ x ∈ t.conns.zipIdx, e = entCn x := by
    rcases ent_cases he with hc | hc | hc | ⟨x, hx, rfl⟩ | ⟨x, hx, rfl⟩ | ⟨x, hx, rfl⟩
    · exact hc.2
    · exact absurd rfl (kind_apart bConn bChan (by decide) hK hc.1)
    · exact absurd rfl (kind_apart bConn bNext (by decide) hK hc.1)
    · exact absurd rfl (kind_apart bConn bSent (by decide) hK ⟨_, rfl⟩)
    · exact absurd rfl (kind_apart bConn bGot (by decide) hK ⟨_, rfl⟩)
    · exact absurd rfl (kind_apart bConn bAck (by decide) hK ⟨_, rfl⟩)
  have h1 := (keyL_inj _ _ _ _ bConn bConn hk).2
  simp only [List.cons.injEq, and_true] at h1
  obtain ⟨_, hx2⟩ := mem_zip hx
  rw [h1] at hx2
  have w1 := hs.conns c (List.mem_of_getElem? hc)
  have w2 := ht.conns _ (List.mem_of_getElem? hx2)
  have hn := nums_inj _ _ (by simp) (by simp) (connB_wr w2) (connB_wr w1) hv
  have g1 := wrongCn_ok w1
  have g2 := wrongCn_ok w2
  simp only [List.map_cons, List.map_nil, List.cons.injEq, and_true] at hn
  rw [hx2]
  obtain ⟨a1, a2, a3, a4⟩ := c
  generalize x.1 = y at *
  obtain ⟨b1, b2, b3, b4⟩ := y
  simp only at *
  simp only [Option.some.injEq, Cn.mk.injEq]
  omega
theorem chans_half {s t : St} (hs : Right s) (ht : Right t) (h : ∀ p ∈ (entries s).map prOf, p ∈ (entries t).map prOf) : ∀ (i : Nat) c, (s.chans.map bareCh)[i]? = some c → (t.chans.map bareCh)[i]? = some c := by
  intro i c0 hc0
  obtain ⟨c, hc, rfl⟩ : ∃ c, s.chans[i]? = some c ∧ bareCh c = c0 := by simpa [List.getElem?_map] using hc0
  have hd : prOf ⟨keyL kwChan [i], chanB c, false⟩ ∈ (entries s).map prOf := List.mem_map_of_mem (by unfold entries; simp only [List.mem_append]; exact .inr (.inl (List.mem_flatMap.2 ⟨_, zip_mem hc, by simp [entCh]⟩)))
  have hd2 : prOf ⟨keyL kwNext [i], numsB [c.recv], false⟩ ∈ (entries s).map prOf := List.mem_map_of_mem (by unfold entries; simp only [List.mem_append]; exact .inr (.inl (List.mem_flatMap.2 ⟨_, zip_mem hc, by simp [entCh]⟩)))
  obtain ⟨e, he, hpe⟩ := List.mem_map.1 (h _ hd)
  obtain ⟨hk, hv⟩ : e.key = keyL kwChan [i] ∧ e.val = chanB c := ⟨congrArg Pr.key hpe, congrArg Pr.val hpe⟩
  obtain ⟨f, hf, hpf⟩ := List.mem_map.1 (h _ hd2)
  obtain ⟨hkf, hvf⟩ : f.key = keyL kwNext [i] ∧ f.val = numsB [c.recv] := ⟨congrArg Pr.key hpf, congrArg Pr.val hpf⟩
  have hK : Kind kwChan e := ⟨_, hk⟩
  have hF : Kind kwNext f := ⟨_, hkf⟩
  obtain ⟨x, hx, rfl⟩ : ∃ x ∈ t.chans.zipIdx, e = ⟨keyL kwChan [x.2], chanB x.1, false⟩ := by
    rcases ent_cases he with hc | hc | hc | ⟨x, hx, rfl⟩ | ⟨x, hx, rfl⟩ | ⟨x, hx, rfl⟩
    · exact absurd rfl (kind_apart bChan bConn (by decide) hK hc.1)
    · exact hc.2
    · exact absurd rfl (kind_apart bChan bNext (by decide) hK hc.1)
    · exact absurd rfl (kind_apart bChan bSent (by decide) hK ⟨_, rfl⟩)
    · exact absurd rfl (kind_apart bChan bGot (by decide) hK ⟨_, rfl⟩)
    · exact absurd rfl (kind_apart bChan bAck (by decide) hK ⟨_, rfl⟩)
  obtain ⟨z, hz, rfl⟩ : ∃ x ∈ t.chans.zipIdx, f = ⟨keyL kwNext [x.2], numsB [x.1.recv], false⟩ := by
    rcases ent_cases hf with hc | hc | hc | ⟨x, hx, rfl⟩ | ⟨x, hx, rfl⟩ | ⟨x, hx, rfl⟩
    · exact absurd rfl (kind_apart bNext bConn (by decide) hF hc.1)
    · exact absurd rfl (kind_apart bNext bChan (by decide) hF hc.1)
    · exact hc.2
    · exact absurd rfl (kind_apart bNext bSent (by decide) hF ⟨_, rfl⟩)
    · exact absurd rfl (kind_apart bNext bGot (by decide) hF ⟨_, rfl⟩)
    · exact absurd rfl (kind_apart bNext bAck (by decide) hF ⟨_, rfl⟩)
  have h1 := (keyL_inj _ _ _ _ bChan bChan hk).2
  have h2 := (keyL_inj _ _ _ _ bNext bNext hkf).2
  simp only [List.cons.injEq, and_true] at h1 h2
  obtain ⟨_, hx2⟩ := mem_zip hx
  obtain ⟨_, hz2⟩ := mem_zip hz
  rw [h1] at hx2
  rw [h2, hx2] at hz2
  have hxz : x.1 = z.1 := by simpa using hz2
  have w1 := hs.chans c (List.mem_of_getElem? hc)
  have w2 := ht.chans _ (List.mem_of_getElem? hx2)
  have hn := nums_inj _ _ (by simp) (by simp) (chanB_wr w2) (chanB_wr w1) hv
  rw [← hxz] at hvf
  have hn2 := nums_inj _ _ (by simp) (by simp) (recvB_wr w2) (recvB_wr w1) hvf
  have g1 := wrongCh_ok w1
  have g2 := wrongCh_ok w2
  simp only [List.map_cons, List.map_nil, List.cons.injEq, and_true] at hn hn2
  rw [List.getElem?_map, hx2]
  clear hx2 hz2 hxz hx hz hk hkf hv hvf he hf hpe hpf hK hF w1 w2
  obtain ⟨a1, a2, a3, a4, a5, a6, a7⟩ := c
  generalize x.1 = y at *
  obtain ⟨b1, b2, b3, b4, b5, b6, b7⟩ := y
  simp only [bareCh, Option.map_some, Option.some.injEq, Ch.mk.injEq] at *
  obtain ⟨n1, n2, n3, n4⟩ := hn
  have hb : b2 = a2 := by cases a2 <;> cases b2 <;> simp at n2 ⊢
  refine ⟨by omega, hb, by omega, by omega, trivial, by omega, trivial⟩
/-- states with one book are alike -/
theorem book_alike {s t : St} (hs : Right s) (ht : Right t) : bookS s = bookS t ↔ Alike s t := by
  constructor
  · intro e
    have p1 := (book_of hs).2.1
    have p2 := (book_of ht).2.1
    rw [← e] at p2
    have hp : ∀ p, p ∈ (entries s).map prOf ↔ p ∈ (entries t).map prOf := fun p => (p1.mem_iff.symm).trans p2.mem_iff
    have h1 := fun p hp' => (hp p).1 hp'
    have h2 := fun p hp' => (hp p).2 hp'
    exact ⟨half_ext (conns_half hs ht h1) (conns_half ht hs h2), half_ext (chans_half hs ht h1) (chans_half ht hs h2), asc_ext hs.sent.2 ht.sent.2 fun x => ⟨sent_half hs ht h1 x, sent_half ht hs h2 x⟩,
      asc_ext hs.got.2 ht.got.2 fun x => ⟨got_half hs ht h1 x, got_half ht hs h2 x⟩, asc_ext hs.acks.2 ht.acks.2 fun x => ⟨acks_half hs ht h1 x, acks_half ht hs h2 x⟩⟩
  · intro h
    unfold bookS
    rw [alike_entries h]
end Go.Proofs.YtooemgkjkngpcaaDoor
