/-
  A state in the blocks of Z alone: its channels are others.
-/
import Derived.Test.YtbgdpfeobklnhaaGreatDoorcvCoMath
import Derived.Test.YtbgdpfeobklnhaaGreatDoorcvFrKit
import Derived.Test.YtbgdpfeobklnhaaGreatDoorcvChMath
namespace Go.Proofs.YtbgdpfeobklnhaaGreatDoor
open Go.RowKit
def Jo (Z:Nat→Prop) (base:Nat) (w:World) (s:St) (v1 v2 v3 v4 v5 v6 v7:Value):Prop :=
 ∃ F:Nat→Nat→Prop,(∀ i b,F i b→Z b) ∧
  QL (F 1) w (fun w2=>QB ClR 4 w2 w2.heap.size v1 s.clients) ∧
  QV 60 Je 4 w base v2 s.conns∧QV 54 Qh 7 w base v3 s.chans ∧
  QL (F 4) w (fun w2=>QB MkR 3 w2 w2.heap.size v4 s.sent)∧QL (F 5) w (fun w2=>QB MkR 3 w2 w2.heap.size v5 s.got)∧QL (F 6) w (fun w2=>QB MkR 3 w2 w2.heap.size v6 s.acks) ∧
  QV 75 Jy 3 w base v7 s.purses ∧
  (∀ b,v2.ownBlock=some b→F 2 b∧∀ i,i≠2→¬ F i b)∧(∀ b,v3.ownBlock=some b→F 3 b∧∀ i,i≠3→¬ F i b)∧(∀ b,v7.ownBlock=some b→F 7 b∧∀ i,i≠7→¬ F i b)
theorem Jo.mem {Z:Nat→Prop} {base:Nat} {w:World} {s:St} {v1 v2 v3 v4 v5 v6 v7:Value} (h:Jo Z base w s v1 v2 v3 v4 v5 v6 v7):Zl w w.heap.size s v1 v2 v3 v4 v5 v6 v7:=by
 obtain ⟨F,_,h1,h2,h3,h4,h5,h6,h7,_⟩:=h
 exact ⟨h1.now,h2.held.now,h3.held.now,h4.now,h5.now,h6.now,h7.held.now⟩
theorem Jo.conns {Z:Nat→Prop} {base:Nat} {w:World} {s:St} {v1 v2 v3 v4 v5 v6 v7:Value} (h:Jo Z base w s v1 v2 v3 v4 v5 v6 v7):QV 60 Je 4 w base v2 s.conns:=by
 obtain ⟨F,_,_,h2,_⟩:=h
 exact h2
theorem Jo.on {Z:Nat→Prop} {base:Nat} {w w':World} {s:St} {v1 v2 v3 v4 v5 v6 v7:Value} (h:Jo Z base w s v1 v2 v3 v4 v5 v6 v7) (hb:Below 0 w w') (hk:∀ b,b<w.heap.size→Z b→w'.heap[b]?=w.heap[b]?):Jo Z base w' s v1 v2 v3 v4 v5 v6 v7:=by
 obtain ⟨F,h0,h1,h2,h3,h4,h5,h6,h7,k2,k3,k7⟩:=h
 have H:∀ (i:Nat) (P:World→Prop),QL (F i) w P→QL (F i) w' P:=fun i P hP=>hP.on hb (fun b hF=>hk b (hP.1 b hF) (h0 i b hF))
 exact ⟨F,h0,H _ _ h1,h2.keep fun b hb'=>hk b (h2.own b hb').2 (h0 2 b (k2 b hb').1),h3.keep fun b hb'=>hk b (h3.own b hb').2 (h0 3 b (k3 b hb').1),H _ _ h4,H _ _ h5,H _ _ h6,h7.keep fun b hb'=>hk b (h7.own b hb').2 (h0 7 b (k7 b hb').1),k2,k3,k7⟩
theorem Jo.below {Z:Nat→Prop} {base:Nat} {w w':World} {s:St} {v1 v2 v3 v4 v5 v6 v7:Value} (h:Jo Z base w s v1 v2 v3 v4 v5 v6 v7) (hb:Below w.heap.size w w'):Jo Z base w' s v1 v2 v3 v4 v5 v6 v7 :=
 h.on (hb.mono (Nat.zero_le _)) (fun b hlt _=>hb.block b hlt)
theorem Jo.holds {Z:Nat→Prop} {N base:Nat} {w:World} {t:St} {v1 v2 v3 v4 v5 v6 v7:Value} (h:Jo Z base w t v1 v2 v3 v4 v5 v6 v7) (hZ:∀ b,Z b→b<N∨base≤b):Qv N base w (.agg #[.string t.name,.int .i64 t.height,.int .i64 t.time,v1,v2,v3,v4,v5,v6,v7]) t :=
 ⟨fun _ hb=>hb.2,fun _ hb hk=>⟨v1,v2,v3,v4,v5,v6,v7,rfl,(h.on hb (fun b hlt hr=>hk b ⟨hZ b hr,hlt⟩)).mem⟩⟩
theorem Jo.putChans {Z:Nat→Prop} {base:Nat} {w w':World} {s:St} {v1 v2 v3 v4 v5 v6 v7:Value} (h:Jo Z base w s v1 v2 v3 v4 v5 v6 v7) {v3':Value} {l:List Ch} (hg:w.grownBy w' v3.ownBlock) (hl:QV 54 Qh 7 w' base v3' l) (hn:∀ b,v3'.ownBlock=some b→v3.ownBlock=some b∨w.heap.size≤b) (hZ:∀ b,v3'.ownBlock=some b→Z b) :
  Jo Z base w' { s with chans:=l } v1 v2 v3' v4 v5 v6 v7:=by
 obtain ⟨F,h0,h1,h2,h3,h4,h5,h6,h7,k2,k3,k7⟩:=h
 have hlt:∀ i b,(i=1∨i=4∨i=5∨i=6)→F i b→b<w.heap.size:=fun i b hi hF=>by
  rcases hi with rfl | rfl | rfl | rfl
  ·exact h1.1 b hF
  ·exact h4.1 b hF
  ·exact h5.1 b hF
  ·exact h6.1 b hF
 refine ⟨fun i b=>(i=3∧v3'.ownBlock=some b)∨(i=2∧v2.ownBlock=some b)∨(i=7∧v7.ownBlock=some b)∨((i=1∨i=4∨i=5∨i=6)∧F i b),fun i b hF=>?_,?_⟩
 ·rcases hF with ⟨rfl,e⟩ | ⟨rfl,e⟩ | ⟨rfl,e⟩ | ⟨_,hF⟩
  ·exact hZ b e
  ·exact h0 2 b (k2 b e).1
  ·exact h0 7 b (k7 b e).1
  ·exact h0 i b hF
 ·have H:∀ (i:Nat) (P:World→Prop),(i=1∨i=4∨i=5∨i=6)→QL (F i) w P→QL (fun b=>(i=3∧v3'.ownBlock=some b)∨(i=2∧v2.ownBlock=some b)∨(i=7∧v7.ownBlock=some b)∨((i=1∨i=4∨i=5∨i=6)∧F i b)) w' P:=fun i P hi hP=>by
   have hP':=hP.grown hg (fun b e=>(k3 b e).2 i (by omega))
   exact hP'.wide (fun b hF=>.inr (.inr (.inr ⟨hi,hF⟩))) (fun b hF=>by
    rcases hF with ⟨rfl,_⟩ | ⟨rfl,_⟩ | ⟨rfl,_⟩ | ⟨_,hF⟩
    ·omega
    ·omega
    ·omega
    ·exact hP'.1 b hF)
  have n2:∀ b,v2.ownBlock=some b→some b≠v3.ownBlock:=fun b e e2=>(k2 b e).2 3 (by omega) (k3 b e2.symm).1
  have n7:∀ b,v7.ownBlock=some b→some b≠v3.ownBlock:=fun b e e2=>(k7 b e).2 3 (by omega) (k3 b e2.symm).1
  have n27:∀ b,v2.ownBlock=some b→v7.ownBlock≠some b:=fun b e e2=>(k2 b e).2 7 (by omega) (k7 b e2).1
  refine ⟨H 1 _ (.inl rfl) h1,h2.keep fun b e=>hg.block b (h2.own b e).2 (n2 b e),hl,H 4 _ (.inr (.inl rfl)) h4,H 5 _ (.inr (.inr (.inl rfl))) h5,H 6 _ (.inr (.inr (.inr rfl))) h6,h7.keep fun b e=>hg.block b (h7.own b e).2 (n7 b e),fun b e=>⟨.inr (.inl ⟨rfl,e⟩),fun i hi hF=>?_⟩,fun b e=>⟨.inl ⟨rfl,e⟩,fun i hi hF=>?_⟩,fun b e=>⟨.inr (.inr (.inl ⟨rfl,e⟩)),fun i hi hF=>?_⟩⟩
  ·rcases hF with ⟨rfl,e'⟩ | ⟨rfl,e'⟩ | ⟨rfl,e'⟩ | ⟨hi',hF⟩
   ·rcases hn b e' with e2 | hge
    ·exact n2 b e e2.symm
    ·have:=(h2.own b e).2;omega
   ·exact hi rfl
   ·exact n27 b e e'
   ·exact (k2 b e).2 i (by omega) hF
  ·rcases hF with ⟨rfl,_⟩ | ⟨rfl,e'⟩ | ⟨rfl,e'⟩ | ⟨hi',hF⟩
   ·exact hi rfl
   ·rcases hn b e with e2 | hge
    ·exact n2 b e' e2.symm
    ·have:=(h2.own b e').2;omega
   ·rcases hn b e with e2 | hge
    ·exact n7 b e' e2.symm
    ·have:=(h7.own b e').2;omega
   ·rcases hn b e with e2 | hge
    ·exact (k3 b e2).2 i (by omega) hF
    ·have:=hlt i b hi' hF;omega
  ·rcases hF with ⟨rfl,e'⟩ | ⟨rfl,e'⟩ | ⟨rfl,e'⟩ | ⟨hi',hF⟩
   ·rcases hn b e' with e2 | hge
    ·exact n7 b e e2.symm
    ·have:=(h7.own b e).2;omega
   ·exact n27 b e' e
   ·exact hi rfl
   ·exact (k7 b e).2 i (by omega) hF
theorem Jo.chans {Z:Nat→Prop} {base:Nat} {w:World} {s:St} {v1 v2 v3 v4 v5 v6 v7:Value} (h:Jo Z base w s v1 v2 v3 v4 v5 v6 v7):QV 54 Qh 7 w base v3 s.chans:=by
 obtain ⟨F,_,_,_,h3,_⟩:=h
 exact h3
theorem Q7.toZB {N base:Nat} {w:World} {s:St} {v1 v2 v3 v4 v5 v6 v7:Value} (h:Q7 N base w s v1 v2 v3 v4 v5 v6 v7) (B:Nat):Jo (fun b=>(b<N∨base≤b)∧¬ (w.heap.size≤b∧b<B)) base w s v1 v2 v3 v4 v5 v6 v7:=by
 obtain ⟨F,h0,h1,h2,h3,h4,h5,h6,h7,k2,k3,k7⟩:=h
 have L:∀ (i:Nat) (P:World→Prop),QL (F i) w P→QL (fun b=>F i b∧b<w.heap.size) w P:=fun i P hP=>hP.wide (fun b hF=>⟨hF,hP.1 b hF⟩) (fun _ hF=>hF.2)
 refine ⟨fun i b=>F i b∧b<w.heap.size,fun i b hF=>⟨h0 i b hF.1,by omega⟩,L 1 _ h1,h2,h3,L 4 _ h4,L 5 _ h5,L 6 _ h6,h7,fun b e=>⟨⟨(k2 b e).1,(h2.own b e).2⟩,fun i hi hF=>(k2 b e).2 i hi hF.1⟩,fun b e=>⟨⟨(k3 b e).1,(h3.own b e).2⟩,fun i hi hF=>(k3 b e).2 i hi hF.1⟩,fun b e=>⟨⟨(k7 b e).1,(h7.own b e).2⟩,fun i hi hF=>(k7 b e).2 i hi hF.1⟩⟩
theorem Jo.only {Z:Nat→Prop} {base g:Nat} {w w':World} {s:St} {v1 v2 v3 v4 v5 v6 v7:Value} (h:Jo Z base w s v1 v2 v3 v4 v5 v6 v7) (O:JL g w w') (hg:¬ Z g):Jo Z base w' s v1 v2 v3 v4 v5 v6 v7 :=
 h.on O.below (fun b _ hb=>O.same b (fun e=>hg (e ▸ hb)))
theorem Fr.grown {w w1 w2:World} {l:List Bx} {r:Option Nat} (F:Fr w l w1) (h:w1.grownBy w2 r) (hr:∀ k,r=some k→w.heap.size≤k) (hl:∀ g∈l.map (·.1),some g≠r):Fr w l w2 :=
 ⟨F.b.grown h F.b.size hr,fun q hq=>(F.rows q hq).grown h (hl _ (List.mem_map.2 ⟨q,hq,rfl⟩)),F.own,F.apart⟩
theorem Fr.awayR {w wc:World} {l0:List Bx} {r:Option Nat} {hi:Nat} (F0:Fr w l0 wc) (hr:∀ k,r=some k→wc.heap.size≤k∧k<hi) {l1:List Nat} (hl:∀ q∈l1,hi≤q):∀ q∈l0.map (·.1) ++ l1,some q≠r:=by
 intro q hq e
 have h1:=hr q e.symm
 rcases List.mem_append.1 hq with h | h
 ·have:=F0.lts q h;omega
 ·have:=hl q h;omega
theorem JL.grows {g:Nat} {w w':World} (O:JL g w w'):w.grownBy w' (some g):=⟨O.below.os,O.below.tape,O.below.output,O.below.size,fun k _ hk=>O.same k (fun e=>hk (by rw [e]))⟩
theorem ZK {s:St} {i:Int} (hw:Qk s=0) (h:QI s i=0):(0≤(ZP s i).oconn∧(ZP s i).oconn≤1000000000000)∧(0≤(ZP s i).client∧(ZP s i).client<(s.clients.length:Int)):=by
 obtain ⟨hc,-,hoc,hlv⟩:=Y0 h
 refine ⟨⟨hoc,?_⟩,Qfc hlv⟩
 obtain ⟨k,rfl⟩:∃ k:Nat,i=(k:Int):=⟨i.toNat,by omega⟩
 obtain ⟨x,hx⟩:∃ x,s.conns[k]?=some x:=⟨_,List.getElem?_eq_getElem (by omega)⟩
 rw [ZY hx]
 have:=Qdp ((YD hw).conns x (List.mem_of_getElem? hx))
 omega
end Go.Proofs.YtbgdpfeobklnhaaGreatDoor
