/- A state all of whose lists may be changed, one without the o. -/
import Derived.Test.YtnedafiokmjkkaaGreatDoorsaClAsk
namespace Go.Proofs.YtnedafiokmjkkaaGreatDoor
open Tryz
set_option maxRecDepth 1000000
set_option maxHeartbeats 8000000
open Go.RowKit
variable {w w':World} {B N g i k n:Nat} {v v1 v2 v3 v4 v5 v6 v7:Value} {xs:List Value} {l:List (BitVec 8)} {ps:List KnR} {Z Z':Nat→Prop} {s:St} {rs:List (List Value)} {J X:World→Prop}
theorem Qt3 (rs:List (List Value)) (v:Value) (N:Nat) (w:World) (h:Ja w N v 4 rs) (hN:N≤w.heap.size) (b:∀ r∈rs,r.length=4∧∀ x∈r,x.oneCell'=true) (hl:rs.length≤1000) :
  Calls prog 66 #[v] w fun e w'=>Bd w w'∧∃ v',e=.returned v'∧Qf 78 4 w' w.heap.size v' rs:=QbK.1 QsU rs v N w h hN b hl
theorem Qt4 (rs:List (List Value)) (v:Value) (N:Nat) (w:World) (h:Ja w N v 4 rs) (hN:N≤w.heap.size) (b:∀ r∈rs,r.length=4∧∀ x∈r,x.oneCell'=true) (hl:rs.length≤1000) :
  Calls prog 68 #[v] w fun e w'=>Bd w w'∧∃ v',e=.returned v'∧Qf 82 4 w' w.heap.size v' rs:=QbK.2.1 QsV rs v N w h hN b hl
theorem Qt2 (rs:List (List Value)) (v:Value) (N:Nat) (w:World) (h:Ja w N v 7 rs) (hN:N≤w.heap.size) (b:∀ r∈rs,r.length=7∧∀ x∈r,x.oneCell'=true) (hl:rs.length≤1000) :
  Calls prog 69 #[v] w fun e w'=>Bd w w'∧∃ v',e=.returned v'∧Qf 86 7 w' w.heap.size v' rs:=QbK.2.2.1 QsT rs v N w h hN b hl
theorem Qt5 (rs:List (List Value)) (v:Value) (N:Nat) (w:World) (h:Ja w N v 3 rs) (hN:N≤w.heap.size) (b:∀ r∈rs,r.length=3∧∀ x∈r,x.oneCell'=true) (hl:rs.length≤1000) :
  Calls prog 101 #[v] w fun e w'=>Bd w w'∧∃ v',e=.returned v'∧Qf 90 3 w' w.heap.size v' rs:=QbK.2.2.2.1 Qn7 rs v N w h hN b hl
theorem QoL (rs:List (List Value)) (v:Value) (N:Nat) (w:World) (h:Ja w N v 3 rs) (hN:N≤w.heap.size) (b:∀ r∈rs,r.length=3∧∀ x∈r,x.oneCell'=true) (hl:rs.length≤1000) :
  Calls prog 70 #[v] w fun e w'=>Bd w w'∧∃ v',e=.returned v'∧Qf 70 3 w' w.heap.size v' rs:=QbK.2.2.2.2 QsX rs v N w h hN b hl
theorem Qcm {base e:Nat} (h:w.ownsRow base e k v n xs) (hk:∀ g,v.ownBlock=some g→w'.heap[g]?=w.heap[g]?):w'.ownsRow base e k v n xs:=by
 obtain ⟨h1,h2⟩:=h;refine ⟨h1,?_⟩
 rcases h2 with h2 | ⟨g,cap,cur,h3,h4,h5,h6⟩
 ·simp_all
 ·exact .inr ⟨g,cap,cur,h3,h4,(hk g (by rw [h3];rfl)).trans h5,h6⟩
theorem Qq.held {base:Nat} (h:Qq w base v l):QM (fun b=>base≤b∧b<w.heap.size) w (fun w2=>Bytes w2 w2.heap.size v l) :=
 ⟨fun _ hb=>hb.2,fun w2 _ hk=>Qq.bytes (show Qq w2 base v l from Qcm h fun g hg=>hk g (C3 h g hg))⟩
theorem JN.held {base:Nat} (h:JN w base v ps):QM (fun b=>base≤b∧b<w.heap.size) w (fun w2=>Jj w2 w2.heap.size v (ps.map (·.k))) :=
 ⟨fun _ hb=>hb.2,fun _ _ hk=>JN.knowns (base:=base) ⟨⟨h.1.1,Qcm h.1.2 fun g hg=>hk g (C3 h.1.2 g hg)⟩,fun q hq=>⟨Qcm (h.2 q hq).1 fun g hg=>hk g (C3 (h.2 q hq).1 g hg),Qcm (h.2 q hq).2 fun g hg=>hk g (C3 (h.2 q hq).2 g hg)⟩⟩⟩
theorem Yl.at {α:Type} {t:TypeId} {R:World→Nat→List Value→α→Prop} {K N base:Nat} {w:World} {oa:Option Addr} {n c:Nat} {l:List α} {i:Nat} {x:α} (h:Yl t R K N base w (.slice oa n c) l) (hx:l[i]?=some x) :
  ∃ g rs r,oa=some ⟨g,0,none⟩∧base≤g∧g<w.heap.size∧rs.length=l.length∧Qf t K w base (.slice (some ⟨g,0,none⟩) n c) rs∧rs[i]?=some r∧R w w.heap.size r x ∧
   (∀ (j:Nat) r y,rs[j]?=some r→l[j]?=some y→QM (fun b=>b≠g∧(b<N∨base≤b)∧b<w.heap.size) w (fun w2=>R w2 w2.heap.size r y)) ∧
   (∀ (j:Nat) y,r[j]?=some y→w.cell? ⟨g,i*K+j,none⟩=some y)∧∀ o,w.frozen? ⟨g,o,none⟩=false:=by
 obtain ⟨rs,h1,h2,h3⟩:=h;have C:i<rs.length:=by rw [h1];exact (Bm.1 hx).1
 obtain ⟨r,hr⟩:∃ r,rs[i]?=some r:=⟨_,Bk C⟩;have q:=h2;obtain ⟨h4,_,h5⟩:=h2
 rcases h5 with ⟨h6,h7⟩ | ⟨g,cap,A,h6,h7,h8,h9⟩
 ·omega
 ·simp only [DH] at h6
  obtain ⟨rfl,rfl,rfl⟩:=h6;have m:Row w g t A.toList:=by unfold Row;simpa using h8
  have z:=q.recs;obtain ⟨b,off,e,hc⟩:=z.spot (by omega)
  simp only [C4,Dx] at e;obtain ⟨rfl,rfl,-⟩:=e;refine ⟨g,rs,r,rfl,h7,m.lt,h1,q,hr,(h3 i r x hr hx).now,fun j r y hr hy=>(h3 j r y hr hy).wide (fun b hF=>⟨fun e=>hF.1 (by rw [e];rfl),hF.2⟩) (fun b hF=>hF.2.2),fun j y hy=>?_,fun o=>m.frozen o⟩
  have:=(hc i r hr).2 j y hy;rw [Bq] at this;exact this
theorem Qaw (l:List Mk) (v:Value) (N:Nat) (w:World) (h:Qt MkR 3 w N v l) (hN:N≤w.heap.size) (hl:l.length≤1000) (hf:∀ m∈l,m.fits) :
  Calls prog 71 #[v] w fun e w'=>Bd w w'∧∃ v',e=.returned v'∧Yl 90 MkR 3 N w.heap.size w' v' l:=by
 obtain ⟨rs,h1,h2,h3⟩:=h
 have aA:∀ r∈rs,r.length=3∧∀ x∈r,x.oneCell'=true:=fun r hr=>by
  obtain ⟨i,hi⟩:=De hr;have hil:=(Bm.1 hi).1;obtain ⟨dv,rfl,hd⟩:=h3 i r (l[i]'(by omega)) hi (Bk _)
  obtain ⟨od,cd,rfl,-⟩:=hd.shape
  exact ⟨rfl,fun x hx=>by simp at hx;rcases hx with rfl | rfl | rfl <;> rfl⟩
 have aL:=hid (Qt5 rs v N w h2 hN aA (by omega))
 have O:=hid (show ∀ w1 v1,Bd w w1→Qf 90 3 w1 w.heap.size v1 rs→Yl 90 MkR 3 N w.heap.size w1 v1 l from fun w1 v1 hb hr=>Yl.new MkR.stays h1 hr h3 hN hN hb)
 have HF:=hid hf;clear h1 h2 h3 aA hf
 go_in
 go_wp2_with fail
 refine aL.out.mono ?_;rintro e w1 ⟨I,v1,rfl,D⟩;have S:=hid (O.out _ _ I D);have aI:=hid I;obtain ⟨oa,ca,rfl,-⟩:=S.out.shape;clear I D;generalize hn:l.length=n at *;have HN:=hid hn;clear hn
 go_wp2_with fail
 go_loopw [10] (fun i wr=>∃ k:Nat,k≤n∧i=Bb (k:Int)∧Hid (Yl 90 MkR 3 N w.heap.size wr (.slice oa n ca) l∧Bd w wr)) (fun i _=>n-(intOf i).toNat)
 case atStart=>exact ⟨0,by omega,rfl,hid ⟨S.out,aI.out⟩⟩
 case round =>
  obtain ⟨k,hk,rfl,HT⟩:=hrel;have T:=hid HT.out.1;have G:=hid HT.out.2;have aH:=G.out.size;clear HT
  by_cases aY:k<n
  ·obtain ⟨x,hx⟩:∃ x,l[k]?=some x:=⟨l[k]'(by rw [HN.out];exact aY),Bk _⟩
   have hlt':(k:Int)<(n:Int):=by omega
   obtain ⟨g,rq,r,rfl,aW,M,aC,aD,aE,aZ,aF,hc,Y⟩:=T.out.at hx;obtain ⟨dv,rfl,L⟩:=aZ;obtain ⟨od,cd,rfl,-⟩:=L.shape;have f0:=hc 0 _ rfl;have f1:=hc 1 _ rfl;have f2:=hc 2 _ rfl;simp only [BK] at f0;obtain ⟨w2,A⟩:∃ w2,wr.alloc (.cells #[Bb x.chan,Bb x.seq,.slice od x.dig.length cd] 90)=w2:=⟨_,rfl⟩;have z:=bof A;have E:=hid z;have aG:Row w2 wr.heap.size 90 [Bb x.chan,Bb x.seq,.slice od x.dig.length cd]:=by rw [← A];exact Row.new _ _ _
   have b2:w2.cell? ⟨wr.heap.size,2,none⟩=some (.slice od x.dig.length cd):=aG.cell 2;have aK:=hid (Qha x.dig (.slice od x.dig.length cd) wr.heap.size w2 (L.below z) (HF.out x (Bn hx)));have aR:=hid aD;have aT:=hid aF;have aQ:=hid aC;have aS:=hid aE;have HX:=hid hx;have aU:=hid A;have aJ:=hid (show wr.cell? ⟨g,k*3+2,none⟩=some (.slice od x.dig.length cd) from f2);have aM:=hid (show wr.frozen? ⟨g,k*3+2,none⟩=false from Y _);have hgw:g<w2.heap.size:=Bt M z.size;clear z aG L aC aD aE aF hx hc Y A
   go_upto_region 5 with fail
   rw [aU.out];clear f0 f1 f2
   go_wp2_with fail
   refine aK.out.mono ?_;rintro e w3 ⟨aV,v3,rfl,C⟩;obtain ⟨o3,c3,rfl,-⟩:=C.shape;have q:Bd wr w3:=E.out.trans (aV.mono E.out.size);have HBX:=hid q;have g2:w3.cell? ⟨g,k*3+2,none⟩=some (.slice od x.dig.length cd):=(q.cell M).trans aJ.out;have gz:w3.frozen? ⟨g,k*3+2,none⟩=false:=(World.frozen?_of_block (q.block g M)).trans aM.out
   have aP:=hid (show QM (fun b=>b≠g∧(b<N∨w.heap.size≤b)∧b<w3.heap.size) w3 (fun wz=>MkR wz wz.heap.size [Bb x.chan,Bb x.seq,.slice o3 x.dig.length c3] x) from
    ⟨fun b hb=>hb.2.2,fun wz hz hk=>⟨_,rfl,C.held.2 wz hz fun b hF=>hk b ⟨by omega,.inr (by have:=E.out.size;omega),hF.2⟩⟩⟩)
   have aX:w3.grownBy (w3.setCell ⟨g,k*3+2,none⟩ (.slice o3 x.dig.length c3)) (some g):=Q3 w3 g (k*3+2) [.slice o3 x.dig.length c3];have aB:=(aR.out.below q).putCell (j:=2) (x:=.slice o3 x.dig.length c3) aS.out (by decide) rfl
   have aO:=hid (Yl.put (t:=90) (R:=MkR) (k:=3) (N:=N) (base:=w.heap.size) (n:=n) (c:=ca) aQ.out (fun j r y hr hy=>((aT.out j r y hr hy).below q).wide (fun b hF=>⟨hF.1,hF.2.1,Bt hF.2.2 q.size⟩) (fun b hF=>hF.2.2)) HX.out aP.out aX aB)
   have aN:=hid (show Bd w (w3.setCell ⟨g,k*3+2,none⟩ (.slice o3 x.dig.length c3)) from (G.out.trans (q.mono aH)).setCell aW _);go_wp2;go_roundw
   case rel=>exact ⟨k+1,by omega,by go_num,hid ⟨aO.out,aN.out⟩⟩
   case measure=>simp [intOf];omega
  ·have hge:decide ((k:Int)<(n:Int))=false:=by simp;omega
   go_wp2;go_ret;exact ⟨G.out,_,rfl,T.out⟩
def Zg (Z:Nat→Prop) (w:World) (P:Nat→World→Prop) (own:Nat→Option Nat):Prop :=
 ∃ F:Nat→Nat→Prop,(∀ i b,F i b→Z b)∧(∀ i,QM (F i) w (P i))∧∀ i b,own i=some b→F i b∧∀ j,j≠i→¬ F j b
theorem Zg.now {P:Nat→World→Prop} {own:Nat→Option Nat} (h:Zg Z w P own) (i:Nat):P i w:=by
 obtain ⟨F,_,h2,_⟩:=h;exact (h2 i).now
theorem Zg.on {P:Nat→World→Prop} {own:Nat→Option Nat} (h:Zg Z w P own) (hb:Below 0 w w') (hk:∀ b,b<w.heap.size→Z b→w'.heap[b]?=w.heap[b]?):Zg Z w' P own:=by
 obtain ⟨F,h1,h2,h3⟩:=h;exact ⟨F,h1,fun i=>(h2 i).on hb fun b hF=>hk b ((h2 i).1 b hF) (h1 i b hF),h3⟩
theorem Zg.below {P:Nat→World→Prop} {own:Nat→Option Nat} (h:Zg Z w P own) (hb:Bd w w'):Zg Z w' P own:=h.on (hb.mono (by omega)) fun b e _=>hb.block b e
theorem Zg.wide {P:Nat→World→Prop} {own:Nat→Option Nat} (h:Zg Z w P own) (hZ:∀ b,b<w.heap.size→Z b→Z' b):Zg Z' w P own:=by
 obtain ⟨F,h1,h2,h3⟩:=h;exact ⟨F,fun i b hF=>hZ b ((h2 i).1 b hF) (h1 i b hF),h2,h3⟩
def Qcv (P:Nat→World→Prop) (i:Nat) (p:World→Prop):Nat→World→Prop:=fun j=>if j=i then p else P j
def QfV (o:Nat→Option Nat) (i:Nat) (x:Option Nat):Nat→Option Nat:=fun j=>if j=i then x else o j
theorem Zg.turn {P:Nat→World→Prop} {own:Nat→Option Nat} (h:Zg Z w P own) (i:Nat) {p:World→Prop} {o:Option Nat} (hg:w.grownBy w' (own i)) (G:Nat→Prop) (hG:QM G w' p) (hZ:∀ b,G b→Z b) (hk:∀ b,G b→∀ j,j≠i→own j≠some b) (ho:∀ b,o=some b→G b∧(own i=some b∨w.heap.size≤b)) :
  Zg Z w' (Qcv P i p) (QfV own i o):=by
 obtain ⟨F,h1,h2,h3⟩:=h;refine ⟨fun j b=>if j=i then G b else F j b,fun j b hF=>?_,fun j=>?_,fun j b e=>?_⟩
 ·by_cases e:j=i
  ·have hF':(if j=i then G b else F j b):=hF
   rw [if_pos e] at hF';exact hZ b hF'
  ·have hF':(if j=i then G b else F j b):=hF
   rw [if_neg e] at hF';exact h1 j b hF'
 ·by_cases e:j=i
  ·subst e
   simp only [Qcv,if_true];exact hG
  ·simp only [Qcv,if_neg e]
   exact (h2 j).grown hg fun b hb hF=>(h3 i b hb).2 j e hF
 ·by_cases ej:j=i
  ·subst ej
   simp only [QfV,if_true] at e ⊢;obtain ⟨g1,g2⟩:=ho b e;refine ⟨g1,fun k m=>?_⟩
   rw [if_neg m];intro hF
   rcases g2 with g2 | g2
   ·exact (h3 j b g2).2 k m hF
   ·have:=(h2 k).1 b hF;omega
  ·simp only [QfV,if_neg ej] at e ⊢
   obtain ⟨g1,g2⟩:=h3 j b e;refine ⟨g1,fun k m=>?_⟩
   by_cases ek:k=i
   ·subst ek
    rw [if_pos rfl];exact fun hG=>hk b hG j ej e
   ·rw [if_neg ek]
    exact g2 k m
theorem Zg.join {P:Nat→World→Prop} {own:Nat→Option Nat} (h:Zg Z w P own) (i j:Nat) (hj:own j=none) (hi:own i=none) {p:World→Prop} (hp:∀ w2,P i w2→P j w2→p w2):Zg Z w (Qcv P i p) own:=by
 obtain ⟨F,h1,h2,h3⟩:=h;refine ⟨fun k b=>F k b∨(k=i∧F j b),fun k b hF=>hF.elim (h1 k b) fun h=>h1 j b h.2,fun k=>?_,fun k b e=>?_⟩
 ·by_cases e:k=i
  ·subst e
   simp only [Qcv,if_true];exact ⟨fun b hF=>hF.elim ((h2 k).1 b) fun h=>(h2 j).1 b h.2,fun w2 hb hk=>hp w2 ((h2 k).2 w2 hb fun b hF=>hk b (.inl hF)) ((h2 j).2 w2 hb fun b hF=>hk b (.inr ⟨trivial,hF⟩))⟩
  ·simp only [Qcv,if_neg e]
   exact (h2 k).wide (fun b hF=>.inl hF) fun b hF=>hF.elim ((h2 k).1 b) fun h=>absurd h.1 e
 ·obtain ⟨g1,g2⟩:=h3 k b e
  refine ⟨.inl g1,fun m hm hF=>hF.elim (g2 m hm) fun h=>?_⟩
  refine g2 j (fun q=>?_) h.2
  rw [← q,hj] at e
  cases e
def MkE (w:World) (rs:List (List Value)) (l:List Mk):Prop:=rs.length=l.length∧∀ (i:Nat) r x,rs[i]?=some r→l[i]?=some x→MkR w w.heap.size r x
def MkI (N lo hi:Nat) (w:World) (v:Value) (l:List Mk):Prop:=∃ rs,Qf 90 3 w lo v rs∧(∀ b,v.ownBlock=some b→b<hi)∧QM (fun b=>some b≠v.ownBlock∧(b<N∨lo≤b∧b<hi)) w (fun w2=>MkE w2 rs l)
theorem MkI.below {lo hi:Nat} {l:List Mk} (h:MkI N lo hi w v l) (hb:Bd w w'):MkI N lo hi w' v l:=by
 obtain ⟨rs,h1,h2,h3⟩:=h;exact ⟨rs,h1.below hb,h2,h3.below hb⟩
theorem Yl.marks {lo:Nat} {l:List Mk} (h:Yl 90 MkR 3 N lo w v l) (hN:N≤w.heap.size):MkI N lo w.heap.size w v l:=by
 obtain ⟨rs,h1,h2,h3⟩:=h;refine ⟨rs,h2,fun b e=>(h2.own b e).2,fun b hF=>by omega,fun w2 hb hk=>⟨h1,fun i r x hr hx=>(h3 i r x hr hx).2 w2 hb fun b hF=>hk b ⟨hF.1,?_⟩⟩⟩
 rcases hF.2.1 with h | h
 ·omega
 ·omega
theorem MkI.shape {lo hi:Nat} {l:List Mk} (h:MkI N lo hi w v l):∃ oa b,v=.slice oa l.length b:=by
 obtain ⟨rs,h1,_,h3⟩:=h;obtain ⟨oa,b,e,_⟩:=h1.shape;exact ⟨oa,b,by rw [e,h3.now.1]⟩
def QcN (N base:Nat) (w:World) (s:St) (v4 v5 v6:Value):Prop:=∃ r4 r5 r6,(Qf 90 3 w base v4 r4∧Qf 90 3 w base v5 r5∧Qf 90 3 w base v6 r6)∧((∀ b,v4.ownBlock=some b→v5.ownBlock≠some b)∧(∀ b,v4.ownBlock=some b→v6.ownBlock≠some b)∧∀ b,v5.ownBlock=some b→v6.ownBlock≠some b) ∧
 QM (fun b=>((b<N∨base≤b)∧b<w.heap.size)∧some b≠v4.ownBlock∧some b≠v5.ownBlock∧some b≠v6.ownBlock) w (fun w2=>MkE w2 r4 s.sent∧MkE w2 r5 s.got∧MkE w2 r6 s.acks)
theorem QcN.of {base:Nat} {z6:Nat} (h4:MkI N g n w v4 s.sent) (h5:MkI N k B w v5 s.got) (h6:MkI N i z6 w v6 s.acks) (hN:N≤base) (hb:(base≤g∧n≤w.heap.size)∧(base≤k∧B≤w.heap.size)∧(base≤i∧z6≤w.heap.size)) (hNw:N≤w.heap.size)
  (d45:n≤k∨B≤g) (d46:n≤i∨z6≤g) (d56:B≤i∨z6≤k):QcN N base w s v4 v5 v6:=by
 obtain ⟨r4,p4,q4,k4⟩:=h4;obtain ⟨r5,p5,q5,k5⟩:=h5;obtain ⟨r6,p6,q6,k6⟩:=h6;have o4:=fun b e=>(p4.own b e).1
 have o5:=fun b e=>(p5.own b e).1
 have o6:=fun b e=>(p6.own b e).1
 refine ⟨r4,r5,r6,⟨p4.mono (by omega),p5.mono (by omega),p6.mono (by omega)⟩,⟨fun b e e'=>?_,fun b e e'=>?_,fun b e e'=>?_⟩,fun b hF=>hF.1.2,fun w2 j hk=>⟨k4.2 w2 j fun b hF=>hk b ⟨⟨by omega,by omega⟩,hF.1,fun e=>?_,fun e=>?_⟩,k5.2 w2 j fun b hF=>hk b ⟨⟨by omega,by omega⟩,fun e=>?_,hF.1,fun e=>?_⟩,k6.2 w2 j fun b hF=>hk b ⟨⟨by omega,by omega⟩,fun e=>?_,fun e=>?_,hF.1⟩⟩⟩
 ·grind
 ·grind
 ·grind
 ·grind
 ·grind
 ·grind
 ·grind
 ·grind
 ·grind
theorem QcN.on {base:Nat} (h:QcN N base w s v4 v5 v6) (hb:Below 0 w w') (hk:∀ b,b<w.heap.size→b<N∨base≤b→w'.heap[b]?=w.heap[b]?):QcN N base w' s v4 v5 v6:=by
 obtain ⟨r4,r5,r6,⟨p4,p5,p6⟩,d,k⟩:=h;exact ⟨r4,r5,r6,⟨p4.keep fun b e=>hk b (p4.own b e).2 (.inr (p4.own b e).1),p5.keep fun b e=>hk b (p5.own b e).2 (.inr (p5.own b e).1),p6.keep fun b e=>hk b (p6.own b e).2 (.inr (p6.own b e).1)⟩,d,(k.on hb fun b hF=>hk b hF.1.2 hF.1.1).wide (fun b hF=>⟨⟨hF.1.1,Bt hF.1.2 hb.size⟩,hF.2⟩) fun b hF=>hF.1.2⟩
def stP (base:Nat) (s:St) (X:World→Prop) (v1 v2 v3 v4 v5 v6 v7:Value) (r4 r5 r6:List (List Value)):Nat→World→Prop
 | 1=>fun w=>Qt ClR 4 w w.heap.size v1 s.clients
 | 2=>fun w=>JA 82 Q5 4 w base v2 s.conns
 | 3=>fun w=>JA 86 Qr 7 w base v3 s.chans
 | 4=>fun w=>Qf 90 3 w base v4 r4
 | 5=>fun w=>Qf 90 3 w base v5 r5
 | 6=>fun w=>Qf 90 3 w base v6 r6
 | 7=>fun w=>JA 70 YO 3 w base v7 s.purses
 | 8=>fun w=>MkE w r4 s.sent∧MkE w r5 s.got∧MkE w r6 s.acks
 | 9=>X
 | _=>fun _=>True
def stO (v2 v3 v4 v5 v6 v7:Value):Nat→Option Nat
 | 2=>v2.ownBlock
 | 3=>v3.ownBlock
 | 4=>v4.ownBlock
 | 5=>v5.ownBlock
 | 6=>v6.ownBlock
 | 7=>v7.ownBlock
 | _=>none
def noX:World→Prop:=fun _=>True
def Qu (Z:Nat→Prop) (base:Nat) (w:World) (s:St) (X:World→Prop) (v1 v2 v3 v4 v5 v6 v7:Value):Prop:=∃ r4 r5 r6,Zg Z w (stP base s X v1 v2 v3 v4 v5 v6 v7 r4 r5 r6) (stO v2 v3 v4 v5 v6 v7)
theorem Qa7 {base:Nat} {l:List Mk} (h:Qf 90 3 w base v rs) (he:MkE w rs l):Qt MkR 3 w w.heap.size v l:=⟨rs,he.1,h.recs,he.2⟩
theorem Qu.mem {base:Nat} (h:Qu Z base w s X v1 v2 v3 v4 v5 v6 v7):Zw w w.heap.size s v1 v2 v3 v4 v5 v6 v7:=by
 obtain ⟨r4,r5,r6,h⟩:=h;have h8:=h.now 8;exact ⟨h.now 1,JA.held (h.now 2) |>.now,JA.held (h.now 3) |>.now,Qa7 (h.now 4) h8.1,Qa7 (h.now 5) h8.2.1,Qa7 (h.now 6) h8.2.2,JA.held (h.now 7) |>.now⟩
theorem Qu.on {base:Nat} (h:Qu Z base w s X v1 v2 v3 v4 v5 v6 v7) (hb:Below 0 w w') (hk:∀ b,b<w.heap.size→Z b→w'.heap[b]?=w.heap[b]?):Qu Z base w' s X v1 v2 v3 v4 v5 v6 v7:=by
 obtain ⟨r4,r5,r6,h⟩:=h;exact ⟨r4,r5,r6,h.on hb hk⟩
theorem Qu.below {base:Nat} (h:Qu Z base w s X v1 v2 v3 v4 v5 v6 v7) (hb:Bd w w'):Qu Z base w' s X v1 v2 v3 v4 v5 v6 v7:=h.on (hb.mono (by omega)) fun b e _=>hb.block b e
theorem Qu.wide {base:Nat} (h:Qu Z base w s X v1 v2 v3 v4 v5 v6 v7) (hZ:∀ b,b<w.heap.size→Z b→Z' b):Qu Z' base w s X v1 v2 v3 v4 v5 v6 v7:=by
 obtain ⟨r4,r5,r6,h⟩:=h;exact ⟨r4,r5,r6,h.wide hZ⟩
theorem Qfk (base:Nat) (s:St) (X:World→Prop) (v1 v2 v3 v4 v5 v6 v7:Value) (r4 r5 r6:List (List Value)) (h:∀ i,stP base s X v1 v2 v3 v4 v5 v6 v7 r4 r5 r6 i w):∀ i b,stO v2 v3 v4 v5 v6 v7 i=some b→base≤b∧b<w.heap.size:=by
 intro i b e
 match i,e with
 | 2,e=>exact Qf.own (h 2) b e
 | 3,e=>exact Qf.own (h 3) b e
 | 4,e=>exact Qf.own (h 4) b e
 | 5,e=>exact Qf.own (h 5) b e
 | 6,e=>exact Qf.own (h 6) b e
 | 7,e=>exact Qf.own (h 7) b e
theorem Qu.add {base:Nat} (h:Qu Z base w s J v1 v2 v3 v4 v5 v6 v7) (G:Nat→Prop) (hG:QM G w X) (hZ:∀ b,G b→Z b) (hn:∀ b,G b→∀ i,stO v2 v3 v4 v5 v6 v7 i≠some b):Qu Z base w s X v1 v2 v3 v4 v5 v6 v7:=by
 obtain ⟨r4,r5,r6,h⟩:=h;refine ⟨r4,r5,r6,?_⟩;have:=h.turn 9 (o:=none) (⟨rfl,rfl,rfl,Bj _,fun _ _ _=>rfl⟩:w.grownBy w none) G hG hZ (fun b hb j _=>hn b hb j) (fun b e=>by cases e)
 have e1:Qcv (stP base s J v1 v2 v3 v4 v5 v6 v7 r4 r5 r6) 9 X=stP base s X v1 v2 v3 v4 v5 v6 v7 r4 r5 r6:=by
  funext i
  match i with
  | 0 | 1 | 2 | 3 | 4 | 5 | 6 | 7 | 8 | 9 | _+10=>first | rfl | simp [Qcv,stP]
 have e2:QfV (stO v2 v3 v4 v5 v6 v7) 9 none=stO v2 v3 v4 v5 v6 v7:=by
  funext i
  match i with
  | 0 | 1 | 2 | 3 | 4 | 5 | 6 | 7 | 8 | 9 | _+10=>first | rfl | simp [QfV,stO]
 rw [e1,e2] at this;exact this
theorem Qu.putChans {base:Nat} (h:Qu Z base w s X v1 v2 v3 v4 v5 v6 v7) {m:Value} {l:List Ch} (hg:w.grownBy w' v3.ownBlock) (hl:JA 86 Qr 7 w' base m l) (hn:∀ b,m.ownBlock=some b→v3.ownBlock=some b∨w.heap.size≤b) (hZ:∀ b,m.ownBlock=some b→Z b):Qu Z base w' { s with chans:=l } X v1 v2 m v4 v5 v6 v7:=by
 obtain ⟨r4,r5,r6,h⟩:=h;refine ⟨r4,r5,r6,?_⟩;have q:=Qfk base s X v1 v2 v3 v4 v5 v6 v7 r4 r5 r6 h.now
 have hu:∀ b,v3.ownBlock=some b→∀ j,j≠3→stO v2 v3 v4 v5 v6 v7 j≠some b:=fun b e j hj e'=>by
  obtain ⟨F,_,_,h3⟩:=h;exact (h3 3 b e).2 j hj (h3 j b e').1
 have:=h.turn 3 (p:=fun w=>JA 86 Qr 7 w base m l) (o:=m.ownBlock) hg (fun b=>m.ownBlock=some b) ⟨fun b e=>(Qf.own hl b e).2,fun w2 _ hk=>JA.keep hl fun g e=>hk g e⟩ hZ (fun b e j hj e'=>(hn b e).elim (fun e2=>hu b e2 j hj e') fun hge=>by have:=(q j b e').2;omega) (fun b e=>⟨e,hn b e⟩)
 have e1:Qcv (stP base s X v1 v2 v3 v4 v5 v6 v7 r4 r5 r6) 3 (fun w=>JA 86 Qr 7 w base m l)=stP base { s with chans:=l } X v1 v2 m v4 v5 v6 v7 r4 r5 r6:=by
  funext i
  match i with
  | 0 | 1 | 2 | 3 | 4 | 5 | 6 | 7 | 8 | 9 | _+10=>first | rfl | simp [Qcv,stP]
 have e2:QfV (stO v2 v3 v4 v5 v6 v7) 3 m.ownBlock=stO v2 m v4 v5 v6 v7:=by
  funext i
  match i with
  | 0 | 1 | 2 | 3 | 4 | 5 | 6 | 7 | 8 | 9 | _+10=>first | rfl | simp [QfV,stO]
 rw [e1,e2] at this;exact this
theorem Qu.putSent {base:Nat} (h:Qu Z base w s X v1 v2 v3 v4 v5 v6 v7) :
  ∃ rs,Qf 90 3 w base v4 rs∧MkE w rs s.sent∧∀ (w':World) (m:Value) (q:List (List Value)) (l:List Mk),w.grownBy w' v4.ownBlock→Qf 90 3 w' base m q→(∀ b,m.ownBlock=some b→v4.ownBlock=some b∨w.heap.size≤b)→(∀ b,m.ownBlock=some b→Z b)→(∀ w2,MkE w2 rs s.sent→X w2→MkE w2 q l)→Qu Z base w' { s with sent:=l } X v1 v2 v3 m v5 v6 v7:=by
 obtain ⟨r4,r5,r6,h⟩:=h;refine ⟨r4,h.now 4,(h.now 8).1,fun w' m q l hg hl hn hZ hm=>⟨q,r5,r6,?_⟩⟩
 have z:=Qfk base s X v1 v2 v3 v4 v5 v6 v7 r4 r5 r6 h.now
 have hu:∀ b,v4.ownBlock=some b→∀ j,j≠4→stO v2 v3 v4 v5 v6 v7 j≠some b:=fun b e j hj e'=>by
  obtain ⟨F,_,_,h3⟩:=h;exact (h3 4 b e).2 j hj (h3 j b e').1
 have h1:=h.join 8 9 rfl rfl (p:=fun w2=>MkE w2 q l∧MkE w2 r5 s.got∧MkE w2 r6 s.acks) (fun w2 g8 g9=>⟨hm w2 g8.1 g9,g8.2⟩)
 have:=h1.turn 4 (p:=fun w=>Qf 90 3 w base m q) (o:=m.ownBlock) hg (fun b=>m.ownBlock=some b) ⟨fun b e=>(Qf.own hl b e).2,fun w2 _ hk=>Qf.keep hl fun g e=>hk g e⟩ hZ (fun b e j hj e'=>(hn b e).elim (fun e2=>hu b e2 j hj e') fun hge=>by have:=(z j b e').2;omega) (fun b e=>⟨e,hn b e⟩)
 have e1:Qcv (Qcv (stP base s X v1 v2 v3 v4 v5 v6 v7 r4 r5 r6) 8 (fun w2=>MkE w2 q l∧MkE w2 r5 s.got∧MkE w2 r6 s.acks)) 4 (fun w=>Qf 90 3 w base m q)=stP base { s with sent:=l } X v1 v2 v3 m v5 v6 v7 q r5 r6:=by
  funext i
  match i with
  | 0 | 1 | 2 | 3 | 4 | 5 | 6 | 7 | 8 | 9 | _+10=>first | rfl | simp [Qcv,stP]
 have e2:QfV (stO v2 v3 v4 v5 v6 v7) 4 m.ownBlock=stO v2 v3 m v5 v6 v7:=by
  funext i
  match i with
  | 0 | 1 | 2 | 3 | 4 | 5 | 6 | 7 | 8 | 9 | _+10=>first | rfl | simp [QfV,stO]
 rw [e1,e2] at this;exact this
theorem Qu.putGot {base:Nat} (h:Qu Z base w s X v1 v2 v3 v4 v5 v6 v7) :
  ∃ rs,Qf 90 3 w base v5 rs∧MkE w rs s.got∧∀ (w':World) (m:Value) (q:List (List Value)) (l:List Mk),w.grownBy w' v5.ownBlock→Qf 90 3 w' base m q→(∀ b,m.ownBlock=some b→v5.ownBlock=some b∨w.heap.size≤b)→(∀ b,m.ownBlock=some b→Z b)→(∀ w2,MkE w2 rs s.got→X w2→MkE w2 q l)→Qu Z base w' { s with got:=l } X v1 v2 v3 v4 m v6 v7:=by
 obtain ⟨r4,r5,r6,h⟩:=h;refine ⟨r5,h.now 5,(h.now 8).2.1,fun w' m q l hg hl hn hZ hm=>⟨r4,q,r6,?_⟩⟩
 have z:=Qfk base s X v1 v2 v3 v4 v5 v6 v7 r4 r5 r6 h.now
 have hu:∀ b,v5.ownBlock=some b→∀ j,j≠5→stO v2 v3 v4 v5 v6 v7 j≠some b:=fun b e j hj e'=>by
  obtain ⟨F,_,_,h3⟩:=h;exact (h3 5 b e).2 j hj (h3 j b e').1
 have h1:=h.join 8 9 rfl rfl (p:=fun w2=>MkE w2 r4 s.sent∧MkE w2 q l∧MkE w2 r6 s.acks) (fun w2 g8 g9=>⟨g8.1,hm w2 g8.2.1 g9,g8.2.2⟩)
 have:=h1.turn 5 (p:=fun w=>Qf 90 3 w base m q) (o:=m.ownBlock) hg (fun b=>m.ownBlock=some b) ⟨fun b e=>(Qf.own hl b e).2,fun w2 _ hk=>Qf.keep hl fun g e=>hk g e⟩ hZ (fun b e j hj e'=>(hn b e).elim (fun e2=>hu b e2 j hj e') fun hge=>by have:=(z j b e').2;omega) (fun b e=>⟨e,hn b e⟩)
 have e1:Qcv (Qcv (stP base s X v1 v2 v3 v4 v5 v6 v7 r4 r5 r6) 8 (fun w2=>MkE w2 r4 s.sent∧MkE w2 q l∧MkE w2 r6 s.acks)) 5 (fun w=>Qf 90 3 w base m q)=stP base { s with got:=l } X v1 v2 v3 v4 m v6 v7 r4 q r6:=by
  funext i
  match i with
  | 0 | 1 | 2 | 3 | 4 | 5 | 6 | 7 | 8 | 9 | _+10=>first | rfl | simp [Qcv,stP]
 have e2:QfV (stO v2 v3 v4 v5 v6 v7) 5 m.ownBlock=stO v2 v3 v4 m v6 v7:=by
  funext i
  match i with
  | 0 | 1 | 2 | 3 | 4 | 5 | 6 | 7 | 8 | 9 | _+10=>first | rfl | simp [QfV,stO]
 rw [e1,e2] at this;exact this
theorem Qu.putAcks {base:Nat} (h:Qu Z base w s X v1 v2 v3 v4 v5 v6 v7) :
  ∃ rs,Qf 90 3 w base v6 rs∧MkE w rs s.acks∧∀ (w':World) (m:Value) (q:List (List Value)) (l:List Mk),w.grownBy w' v6.ownBlock→Qf 90 3 w' base m q→(∀ b,m.ownBlock=some b→v6.ownBlock=some b∨w.heap.size≤b)→(∀ b,m.ownBlock=some b→Z b)→(∀ w2,MkE w2 rs s.acks→X w2→MkE w2 q l)→Qu Z base w' { s with acks:=l } X v1 v2 v3 v4 v5 m v7:=by
 obtain ⟨r4,r5,r6,h⟩:=h;refine ⟨r6,h.now 6,(h.now 8).2.2,fun w' m q l hg hl hn hZ hm=>⟨r4,r5,q,?_⟩⟩
 have z:=Qfk base s X v1 v2 v3 v4 v5 v6 v7 r4 r5 r6 h.now
 have hu:∀ b,v6.ownBlock=some b→∀ j,j≠6→stO v2 v3 v4 v5 v6 v7 j≠some b:=fun b e j hj e'=>by
  obtain ⟨F,_,_,h3⟩:=h;exact (h3 6 b e).2 j hj (h3 j b e').1
 have h1:=h.join 8 9 rfl rfl (p:=fun w2=>MkE w2 r4 s.sent∧MkE w2 r5 s.got∧MkE w2 q l) (fun w2 g8 g9=>⟨g8.1,g8.2.1,hm w2 g8.2.2 g9⟩)
 have:=h1.turn 6 (p:=fun w=>Qf 90 3 w base m q) (o:=m.ownBlock) hg (fun b=>m.ownBlock=some b) ⟨fun b e=>(Qf.own hl b e).2,fun w2 _ hk=>Qf.keep hl fun g e=>hk g e⟩ hZ (fun b e j hj e'=>(hn b e).elim (fun e2=>hu b e2 j hj e') fun hge=>by have:=(z j b e').2;omega) (fun b e=>⟨e,hn b e⟩)
 have e1:Qcv (Qcv (stP base s X v1 v2 v3 v4 v5 v6 v7 r4 r5 r6) 8 (fun w2=>MkE w2 r4 s.sent∧MkE w2 r5 s.got∧MkE w2 q l)) 6 (fun w=>Qf 90 3 w base m q)=stP base { s with acks:=l } X v1 v2 v3 v4 v5 m v7 r4 r5 q:=by
  funext i
  match i with
  | 0 | 1 | 2 | 3 | 4 | 5 | 6 | 7 | 8 | 9 | _+10=>first | rfl | simp [Qcv,stP]
 have e2:QfV (stO v2 v3 v4 v5 v6 v7) 6 m.ownBlock=stO v2 v3 v4 v5 m v7:=by
  funext i
  match i with
  | 0 | 1 | 2 | 3 | 4 | 5 | 6 | 7 | 8 | 9 | _+10=>first | rfl | simp [QfV,stO]
 rw [e1,e2] at this;exact this
theorem Zg.imp {P P':Nat→World→Prop} {own:Nat→Option Nat} (h:Zg Z w P own) (hp:∀ i w2,P i w2→P' i w2):Zg Z w P' own:=by
 obtain ⟨F,h1,h2,h3⟩:=h;exact ⟨F,h1,fun i=>⟨(h2 i).1,fun w2 hb hk=>hp i w2 ((h2 i).2 w2 hb hk)⟩,h3⟩
theorem Qu.lower {base base':Nat} (h:Qu Z base w s X v1 v2 v3 v4 v5 v6 v7) (hb:base'≤base):Qu Z base' w s X v1 v2 v3 v4 v5 v6 v7:=by
 obtain ⟨r4,r5,r6,h⟩:=h;refine ⟨r4,r5,r6,h.imp fun i w2 hi=>?_⟩
 match i,hi with
 | 0,_=>trivial
 | 1,hi=>exact hi
 | 2,hi=>exact Qf.mono hi hb
 | 3,hi=>exact Qf.mono hi hb
 | 4,hi=>exact Qf.mono hi hb
 | 5,hi=>exact Qf.mono hi hb
 | 6,hi=>exact Qf.mono hi hb
 | 7,hi=>exact Qf.mono hi hb
 | 8,hi=>exact hi
 | 9,hi=>exact hi
 | _+10,_=>trivial
theorem Qu.conns {base:Nat} (h:Qu Z base w s X v1 v2 v3 v4 v5 v6 v7):JA 82 Q5 4 w base v2 s.conns:=by
 obtain ⟨r4,r5,r6,h⟩:=h;exact h.now 2
theorem Qu.chans {base:Nat} (h:Qu Z base w s X v1 v2 v3 v4 v5 v6 v7):JA 86 Qr 7 w base v3 s.chans:=by
 obtain ⟨r4,r5,r6,h⟩:=h;exact h.now 3
theorem Qu.make {base m1 m2:Nat} (hm:base≤m1∧m1≤m2∧N≤m1∧m2≤w.heap.size) (h1:QM (fun b=>(b<N∨base≤b)∧b<m1) w (fun w2=>Qt ClR 4 w2 w2.heap.size v1 s.clients))
  (h2:JA 82 Q5 4 w m1 v2 s.conns) (h3:JA 86 Qr 7 w m1 v3 s.chans) (h7:JA 70 YO 3 w m1 v7 s.purses)
  (C:∀ b,v2.ownBlock=some b→v3.ownBlock≠some b) (D:∀ b,v2.ownBlock=some b→v7.ownBlock≠some b) (E:∀ b,v3.ownBlock=some b→v7.ownBlock≠some b)
  (n2:∀ b,v2.ownBlock=some b→b<m2) (n3:∀ b,v3.ownBlock=some b→b<m2) (n7:∀ b,v7.ownBlock=some b→b<m2) (h4:QcN N m2 w s v4 v5 v6) :
  Qu (fun b=>b<N∨base≤b) base w s noX v1 v2 v3 v4 v5 v6 v7:=by
 obtain ⟨r4,r5,r6,⟨p4,p5,p6⟩,⟨m,q,z⟩,k⟩:=h4;have o2:=fun b e=>Qf.own h2 b e
 have o3:=fun b e=>Qf.own h3 b e
 have o7:=fun b e=>Qf.own h7 b e
 have o4:=fun b e=>Qf.own p4 b e
 have o5:=fun b e=>Qf.own p5 b e
 have o6:=fun b e=>Qf.own p6 b e
 refine ⟨r4,r5,r6,fun i b=>match i with
  | 1=>(b<N∨base≤b)∧b<m1
  | 2=>v2.ownBlock=some b
  | 3=>v3.ownBlock=some b
  | 4=>v4.ownBlock=some b
  | 5=>v5.ownBlock=some b
  | 6=>v6.ownBlock=some b
  | 7=>v7.ownBlock=some b
  | 8=>((b<N∨m2≤b)∧b<w.heap.size)∧some b≠v4.ownBlock∧some b≠v5.ownBlock∧some b≠v6.ownBlock
  | _=>False,fun i b hF=>?_,fun i=>?_,fun i b e=>?_⟩
 ·match i,hF with
  | 1,hF=>exact hF.1
  | 2,hF=>have:=o2 b hF;omega
  | 3,hF=>have:=o3 b hF;omega
  | 4,hF=>have:=o4 b hF;omega
  | 5,hF=>have:=o5 b hF;omega
  | 6,hF=>have:=o6 b hF;omega
  | 7,hF=>have:=o7 b hF;omega
  | 8,hF=>have:=hF.1.1;omega
 ·match i with
  | 0=>exact ⟨fun _ h=>h.elim,fun _ _ _=>trivial⟩
  | 1=>exact h1
  | 2=>exact ⟨fun b e=>(o2 b e).2,fun w2 _ hk=>Qf.mono (Qf.keep h2 fun g e=>hk g e) hm.1⟩
  | 3=>exact ⟨fun b e=>(o3 b e).2,fun w2 _ hk=>Qf.mono (Qf.keep h3 fun g e=>hk g e) hm.1⟩
  | 4=>exact ⟨fun b e=>(o4 b e).2,fun w2 _ hk=>Qf.mono (Qf.keep p4 fun g e=>hk g e) (by omega)⟩
  | 5=>exact ⟨fun b e=>(o5 b e).2,fun w2 _ hk=>Qf.mono (Qf.keep p5 fun g e=>hk g e) (by omega)⟩
  | 6=>exact ⟨fun b e=>(o6 b e).2,fun w2 _ hk=>Qf.mono (Qf.keep p6 fun g e=>hk g e) (by omega)⟩
  | 7=>exact ⟨fun b e=>(o7 b e).2,fun w2 _ hk=>Qf.mono (Qf.keep h7 fun g e=>hk g e) hm.1⟩
  | 8=>exact k
  | 9=>exact ⟨fun _ h=>h.elim,fun _ _ _=>trivial⟩
  | _+10=>exact ⟨fun _ h=>h.elim,fun _ _ _=>trivial⟩
 ·match i,e with
  | 2,e =>
   refine ⟨e,fun j hj hF=>?_⟩
   have hb:=o2 b e;have A:=n2 b e
   match j,hF with
   | 1,hF=>have:=hF.2;omega
   | 2,_=>exact hj rfl
   | 3,hF=>exact C b e hF
   | 4,hF=>have:=o4 b hF;omega
   | 5,hF=>have:=o5 b hF;omega
   | 6,hF=>have:=o6 b hF;omega
   | 7,hF=>exact D b e hF
   | 8,hF=>have:=hF.1;omega
  | 3,e =>
   refine ⟨e,fun j hj hF=>?_⟩
   have hb:=o3 b e;have A:=n3 b e
   match j,hF with
   | 1,hF=>have:=hF.2;omega
   | 2,hF=>exact C b hF e
   | 3,_=>exact hj rfl
   | 4,hF=>have:=o4 b hF;omega
   | 5,hF=>have:=o5 b hF;omega
   | 6,hF=>have:=o6 b hF;omega
   | 7,hF=>exact E b e hF
   | 8,hF=>have:=hF.1;omega
  | 4,e =>
   refine ⟨e,fun j hj hF=>?_⟩
   have hb:=o4 b e
   match j,hF with
   | 1,hF=>have:=hF.2;omega
   | 2,hF=>have:=n2 b hF;omega
   | 3,hF=>have:=n3 b hF;omega
   | 4,_=>exact hj rfl
   | 5,hF=>exact m b e hF
   | 6,hF=>exact q b e hF
   | 7,hF=>have:=n7 b hF;omega
   | 8,hF=>exact hF.2.1 e.symm
  | 5,e =>
   refine ⟨e,fun j hj hF=>?_⟩
   have hb:=o5 b e
   match j,hF with
   | 1,hF=>have:=hF.2;omega
   | 2,hF=>have:=n2 b hF;omega
   | 3,hF=>have:=n3 b hF;omega
   | 4,hF=>exact m b hF e
   | 5,_=>exact hj rfl
   | 6,hF=>exact z b e hF
   | 7,hF=>have:=n7 b hF;omega
   | 8,hF=>exact hF.2.2.1 e.symm
  | 6,e =>
   refine ⟨e,fun j hj hF=>?_⟩
   have hb:=o6 b e
   match j,hF with
   | 1,hF=>have:=hF.2;omega
   | 2,hF=>have:=n2 b hF;omega
   | 3,hF=>have:=n3 b hF;omega
   | 4,hF=>exact q b hF e
   | 5,hF=>exact z b hF e
   | 6,_=>exact hj rfl
   | 7,hF=>have:=n7 b hF;omega
   | 8,hF=>exact hF.2.2.2 e.symm
  | 7,e =>
   refine ⟨e,fun j hj hF=>?_⟩
   have hb:=o7 b e;have A:=n7 b e
   match j,hF with
   | 1,hF=>have:=hF.2;omega
   | 2,hF=>exact D b hF e
   | 3,hF=>exact E b hF e
   | 4,hF=>have:=o4 b hF;omega
   | 5,hF=>have:=o5 b hF;omega
   | 6,hF=>have:=o6 b hF;omega
   | 7,_=>exact hj rfl
   | 8,hF=>have:=hF.1;omega
theorem Qu.toOwn {base:Nat} (h:Qu (fun b=>b<N∨base≤b) base w s X v1 v2 v3 v4 v5 v6 v7):Jp N base w s v1 v2 v3 v4 v5 v6 v7:=by
 obtain ⟨r4,r5,r6,F,h1,h2,h3⟩:=h
 have M:∀ i,(i=4∨i=5∨i=6)→∀ (P:World→Prop),(∀ w2,stP base s X v1 v2 v3 v4 v5 v6 v7 r4 r5 r6 i w2→stP base s X v1 v2 v3 v4 v5 v6 v7 r4 r5 r6 8 w2→P w2)→QM (fun b=>F i b∨((i=4∨i=5∨i=6)∧F 8 b)) w P:=fun i hi P hP =>
  ⟨fun b hF=>hF.elim ((h2 i).1 b) fun h=>(h2 8).1 b h.2,fun w2 hb hk=>hP w2 ((h2 i).2 w2 hb fun b hF=>hk b (.inl hF)) ((h2 8).2 w2 hb fun b hF=>hk b (.inr ⟨hi,hF⟩))⟩
 have W:∀ i,¬ (i=4∨i=5∨i=6)→∀ (P:World→Prop),QM (F i) w P→QM (fun b=>F i b∨((i=4∨i=5∨i=6)∧F 8 b)) w P:=fun i hi P hP=>hP.wide (fun b hF=>.inl hF) fun b hF=>hF.elim (hP.1 b) fun h=>absurd h.1 hi
 have K:∀ i b,¬ (i=4∨i=5∨i=6∨i=8)→stO v2 v3 v4 v5 v6 v7 i=some b→(F i b∨((i=4∨i=5∨i=6)∧F 8 b))∧∀ j,j≠i→¬ (F j b∨((j=4∨j=5∨j=6)∧F 8 b)):=fun i b hi e=>by
  obtain ⟨g1,g2⟩:=h3 i b e;exact ⟨.inl g1,fun j hj hF=>hF.elim (g2 j hj) fun h=>g2 8 (by omega) h.2⟩
 exact ⟨fun i b=>F i b∨((i=4∨i=5∨i=6)∧F 8 b),fun i b hF=>hF.elim (h1 i b) fun h=>h1 8 b h.2,W 1 (by omega) _ (h2 1),(h2 2).now,(h2 3).now,M 4 (.inl rfl) _ (fun w2 g g8=>Qa7 g g8.1),M 5 (.inr (.inl rfl)) _ (fun w2 g g8=>Qa7 g g8.2.1),M 6 (.inr (.inr rfl)) _ (fun w2 g g8=>Qa7 g g8.2.2),(h2 7).now,fun b e=>K 2 b (by omega) e,fun b e=>K 3 b (by omega) e,fun b e=>K 7 b (by omega) e⟩
end Go.Proofs.YtnedafiokmjkkaaGreatDoor
