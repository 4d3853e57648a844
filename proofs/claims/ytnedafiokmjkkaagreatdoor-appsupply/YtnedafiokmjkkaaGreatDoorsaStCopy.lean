/- Package state's Copy. -/
import Derived.Test.YtnedafiokmjkkaaGreatDoorsaStSlots
import Derived.Laws.CopyOwn
namespace Go.Proofs.YtnedafiokmjkkaaGreatDoor
open Tryz
set_option maxRecDepth 1000000
set_option maxHeartbeats 8000000
open Go.RowKit
section
variable (P:Program) (ops:Array Oper) (Q:Exit→Act→World→Prop) (fr:(Nat→Value)→Array Value) (G:Nat→Nat→Nat→Value→World→Prop) (w0:World)
def QbI (i:Nat) (σ:Nat→Value) (w:World) (a':Act) (w':World):Prop:=∃ v,a'=⟨fr (Qn σ i v),[]⟩∧Bd w w'∧G i w.heap.size w'.heap.size v w'
def Qi5:Nat→List Oper→Prop
 | _,[]=>True
 | i,o :: l=>(∀ (σ:Nat→Value) (w:World),Bd w0 w→(∀ e∈o.after,Region.binds .any e=true→∃ lo hi,G e.on lo hi (σ e.on) w)→wpOp P ops Q i (QbI fr G i σ w) ⟨fr σ,[]⟩ w)∧Qi5 (i+1) l
end
theorem Qi5.get {P:Program} {b:Array Oper} {Q:Exit→Act→World→Prop} {fr:(Nat→Value)→Array Value} {G:Nat→Nat→Nat→Value→World→Prop} {w0:World} :
  ∀ (l:List Oper) (k i:Nat) (o:Oper),Qi5 P b Q fr G w0 k l→l[i]?=some o→∀ (σ:Nat→Value) (w:World),Bd w0 w→(∀ e∈o.after,Region.binds .any e=true→∃ lo hi,G e.on lo hi (σ e.on) w)→wpOp P b Q (k+i) (QbI fr G (k+i) σ w) ⟨fr σ,[]⟩ w
 | [],_,_,_,_,h=>by simp at h
 | x :: l,k,i,o,hs,h=>by
  cases i with
  | zero =>
   obtain rfl:x=o:=by simpa using h
   exact hs.1
  | succ i =>
   have:=Qi5.get l (k+1) i o hs.2 (by simpa using h)
   rw [show k+(i+1)=k+1+i by omega]
   exact this
theorem QbI.mk {fr:(Nat→Value)→Array Value} {G:Nat→Nat→Nat→Value→World→Prop} {i:Nat} {σ:Nat→Value} {w w':World} {a':Act} (v:Value) (ha:a'=⟨fr (Qn σ i v),[]⟩) (hb:Bd w w') (hg:G i w.heap.size w'.heap.size v w'):QbI fr G i σ w a' w':=⟨v,ha,hb,hg⟩
theorem QbI.mk0 {fr:(Nat→Value)→Array Value} {G:Nat→Nat→Nat→Value→World→Prop} {i:Nat} {σ:Nat→Value} {w:World} {a':Act} (v:Value) (ha:a'=⟨fr (Qn σ i v),[]⟩) (hg:G i w.heap.size w.heap.size v w):QbI fr G i σ w a' w:=⟨v,ha,Bi _ _,hg⟩
def Qlc (f:Nat→Nat) (i n:Nat):Nat→Nat:=fun j=>if j=i then n else f j
def Qlk (G:Nat→Nat→Nat→Value→World→Prop) (w0:World) (up:Nat→Prop) (σ:Nat→Value) (lo hi:Nat→Nat) (w:World):Prop :=
 (∀ i,up i→G i (lo i) (hi i) (σ i) w∧w0.heap.size≤lo i∧lo i≤hi i∧hi i≤w.heap.size)∧∀ i j,up i→up j→i≠j→hi i≤lo j∨hi j≤lo i
theorem Qlk.next {G:Nat→Nat→Nat→Value→World→Prop} {w0 w w':World} {up z:Nat→Prop} {σ:Nat→Value} {lo hi:Nat→Nat} (m:∀ i lo hi v w w',Bd w w'→G i lo hi v w→G i lo hi v w') (h:Qlk G w0 up σ lo hi w) {i:Nat} {v:Value} (hb:Bd w w') (h0:w0.heap.size≤w.heap.size) (hg:G i w.heap.size w'.heap.size v w') (b:∀ j,z j→j=i∨up j) :
  Qlk G w0 z (Qn σ i v) (Qlc lo i w.heap.size) (Qlc hi i w'.heap.size) w':=by
 obtain ⟨h1,h2⟩:=h;refine ⟨fun j hj=>?_,fun j k hj hk q=>?_⟩
 ·by_cases e:j=i
  ·subst e
   simp only [Qn,Qlc];exact ⟨hg,h0,hb.size,Bj _⟩
  ·simp only [Qn,Qlc,if_neg e]
   obtain ⟨g1,g2,g3,g4⟩:=h1 j ((b j hj).resolve_left e);exact ⟨m j _ _ _ w w' hb g1,g2,g3,Bh g4 hb.size⟩
 ·by_cases e:j=i
  ·subst e
   have ek:k≠j:=fun h=>q h.symm
   simp only [Qlc,if_neg ek];exact .inr (h1 k ((b k hk).resolve_left ek)).2.2.2
  ·by_cases ek:k=i
   ·subst ek
    simp only [Qlc,if_neg e];exact .inl (h1 j ((b j hj).resolve_left e)).2.2.2
   ·simp only [Qlc,if_neg e,if_neg ek]
    exact h2 j k ((b j hj).resolve_left e) ((b k hk).resolve_left ek) q
theorem Qfc {P:Program} {id:Nat} {Q:Exit→Act→World→Prop} {w:World} {l:List Oper} {a0:Act} (n:Nat) (hm:P.follows .mixedOrders=true) (fr:(Nat→Value)→Array Value) (σ0:Nat→Value) (h0:a0=⟨fr σ0,[]⟩)
  (G:Nat→Nat→Nat→Value→World→Prop) (q:∀ i lo hi v w w',Bd w w'→G i lo hi v w→G i lo hi v w') (hB:Qo8 l n=true)
  (z:Qi5 P l.toArray Q fr G w 0 (l.take n))
  (I:∀ (σ:Nat→Value) (lo hi:Nat→Nat) (w':World),Bd w w'→Qlk G w (fun i=>i<n) σ lo hi w'→wpList P l.toArray Q (l.drop n) ⟨fr σ,[]⟩ w'):(Code.region id l.toArray true).wp P Q a0 w:=by
 subst h0;simp only [Qo8,BX,BR] at hB;obtain ⟨hn,hs,hc,A,M⟩:=hB;refine wp_region_any hm ?_;have hsz:l.toArray.size=l.length:=by simp
 have T:HeadInv .any l.toArray n (Array.replicate l.toArray.size false) :=
  ⟨by simp,fun j oj _ hx=>(by rw [Ca] at hx;cases hx),fun t _ ht=>getD_in (by simpa using ht) (Ca _ _)⟩
 have K:=QgX (P:=P) (Q:=Q) (n:=n) (fun s a w'=>∃ (σ:Nat→Value) (lo hi:Nat→Nat),s.size=l.length∧a=⟨fr σ,[]⟩∧Bd w w'∧Qlk G w (fun i=>i<n∧s.getD i false=true) σ lo hi w') hs hc hn
  (fun i o ho e he hb=>by have:=QS l 0 i o A (by simpa using ho) e he hb;omega)
  (by
   rintro s a w' ⟨σ,lo,hi,O,rfl,hj,hg⟩ i aB b;obtain ⟨hun,o,ho,D⟩:=BY.1 aB;have ho':l[i]?=some o:=by simp_all
   have aE:(l.take n)[i]?=some o:=by simp_all
   have C:=QS l 0 i o A ho';have S:=Qi5.get (l.take n) 0 i o z aE σ w' hj (fun e he hb=>⟨lo e.on,hi e.on,(hg.1 _ ⟨by have:=C e he hb;omega,D e he hb⟩).1⟩)
   rw [Bq] at S;refine CA ?_ S;rintro a2 w2 ⟨v,rfl,hr,Y⟩;refine ⟨Qn σ i v,Qlc lo i w'.heap.size,Qlc hi i w2.heap.size,by simpa using O,rfl,hj.trans (hr.mono hj.size),hg.next q hr hj.size Y fun j L=>?_⟩
   by_cases e:j=i
   ·omega
   ·refine .inr ⟨L.1,?_⟩
    have:=L.2;rw [BM false (Ne.symm e)] at this
    exact this)
  (by
   rintro s a w' hi ⟨σ,lo,aA,O,rfl,hj,hg⟩ m
   have he:s=(List.replicate n true ++ List.replicate (l.toArray.size-n) false).toArray:=by
    apply Array.ext
    ·grind
    ·intro i h1 h2
     by_cases b:i<n
     ·have h3:=m i b
      simp [h1] at h3;rw [h3];simp [b]
     ·have h3:=hi.tail i (by omega) (by omega)
      simp [h1] at h3;rw [h3];simp [List.getElem_append,b]
   have E:(l.drop n).length=l.toArray.size-n:=by simp
   have up:∀ i,i<n→i<n∧s.getD i false=true:=fun i b=>⟨b,by
    have h3:=m i b;have aC:i<s.size:=by omega
    simp [aC] at h3 ⊢
    exact h3⟩
   have hw:=I σ lo aA w' hj ⟨fun i b=>hg.1 i (up i b),fun i j h1 h2 aD=>hg.2 i j (up i h1) (up j h2) aD⟩
   have:=wpAny_of_seq (md:=.any) (Q':=Q) (l.drop n) n s ⟨fr σ,[]⟩ w' (fun j=>by simp) (by rw [E,he];exact M) hw
   rwa [E] at this)
  n (Array.replicate l.toArray.size false) ⟨fr σ0,[]⟩ w.drew (by simp [QcD];omega) T ⟨σ0,fun _=>0,fun _=>0,by simp,rfl,(Bi _ _).drew,fun i hi=>(by have h:=hi.2;rw [Ca] at h;cases h),fun i j hi=>(by have h:=hi.2;rw [Ca] at h;cases h)⟩
 rwa [show n+(l.toArray.size-n)=l.toArray.size by omega] at K
def few (s:St):Prop:=s.clients.length≤100∧s.conns.length≤100∧s.chans.length≤100∧s.sent.length≤100∧s.got.length≤100∧s.acks.length≤100∧s.purses.length≤100∧∀ c∈s.clients,c.known.length≤1000
structure Qll (s:St):Prop where
 sent:∀ m∈s.sent,m.fits
 got:∀ m∈s.got,m.fits
 acks:∀ m∈s.acks,m.fits
theorem Qee {l:List Cn}:∀ r∈l.map Q5,r.length=4∧∀ x∈r,x.oneCell'=true:=fun r hr=>by
 obtain ⟨c,_,rfl⟩:=BC.1 hr;refine ⟨rfl,fun x hx=>?_⟩
 simp [Q5] at hx
 rcases hx with rfl | rfl | rfl | rfl <;> rfl
theorem Qec {l:List Ch}:∀ r∈l.map Qr,r.length=7∧∀ x∈r,x.oneCell'=true:=fun r hr=>by
 obtain ⟨c,_,rfl⟩:=BC.1 hr;refine ⟨rfl,fun x hx=>?_⟩
 simp [Qr] at hx
 rcases hx with rfl | rfl | rfl | rfl | rfl | rfl | rfl <;> rfl
theorem Qn1 {l:List Pu}:∀ r∈l.map YO,r.length=3∧∀ x∈r,x.oneCell'=true:=fun r hr=>by
 obtain ⟨c,_,rfl⟩:=BC.1 hr;refine ⟨rfl,fun x hx=>?_⟩
 simp [YO] at hx
 rcases hx with rfl | rfl | rfl <;> rfl
def QvB (f:FuncId):Prop:=∀ (s:St) (v:Value) (N:Nat) (w:World),StV w N v s→N≤w.heap.size→s.fits→few s →
 Calls prog f #[v] w fun e w'=>Bd w w'∧∃ p1 d1 p2 d2 p3 d3 p4 d4 p5 d5 p6 d6 p7 d7,e=.returned (.agg #[.string s.name,Bb s.height,Bb s.time,.slice p1 s.clients.length d1,.slice p2 s.conns.length d2,.slice p3 s.chans.length d3,.slice p4 s.sent.length d4,.slice p5 s.got.length d5,.slice p6 s.acks.length d6,.slice p7 s.purses.length d7])∧Jp N w.heap.size w' s (.slice p1 s.clients.length d1) (.slice p2 s.conns.length d2) (.slice p3 s.chans.length d3) (.slice p4 s.sent.length d4) (.slice p5 s.got.length d5) (.slice p6 s.acks.length d6) (.slice p7 s.purses.length d7)
theorem Qve {y0 y2 y3 y4 y5 y6 y7 y8 y9 A0 A1 A2 A3 A4 A5 A6 A7 A8 A9 Aa Ab Ac Ad Ae Af Ag Ah Ai Aj Ak Al Am An Ao Ap Ar As Aq At Au Av Aw Ax Ay Az AA AB AC:Value} {gs N:Nat} (s:St) (q1 q2 q3 q7 o4 o5 o6:Option Addr) (e1 n2 e2 n3 e3 n7 e7 c4 c5 c6:Nat) (u1 u2 u3 u7:Value) {w:World} (hN:N≤w.heap.size) (z:Hid (Row w gs 28 [.string s.name,Bb s.height,Bb s.time,.slice q1 s.clients.length e1,.slice q2 n2 e2,.slice q3 n3 e3,.slice o4 s.sent.length c4,.slice o5 s.got.length c5,.slice o6 s.acks.length c6,.slice q7 n7 e7])) (hm:Hid (Zw w N s u1 u2 u3 (.slice o4 s.sent.length c4) (.slice o5 s.got.length c5) (.slice o6 s.acks.length c6) u7)) (D:few s) (m:Hid (Qll s)) (Q:Exit→Act→World→Prop)
  (hQ:Hid (∀ (σ:Nat→Value) (p4 p5 p6:Option Addr) (d4 d5 d6:Nat) (w2 w3:World),Bd w w2→JJ gs w2 w3→Row w3 gs 28 [.string s.name,Bb s.height,Bb s.time,.slice q1 s.clients.length e1,.slice q2 n2 e2,.slice q3 n3 e3,.slice p4 s.sent.length d4,.slice p5 s.got.length d5,.slice p6 s.acks.length d6,.slice q7 n7 e7]→QcN N w.heap.size w2 s (.slice p4 s.sent.length d4) (.slice p5 s.got.length d5) (.slice p6 s.acks.length d6)→Q .normal ⟨#[y0,.pointer (some ⟨gs,0,none⟩),y2,y3,y4,y5,y6,y7,y8,y9,A0,A1,A2,A3,A4,A5,A6,A7,A8,A9,Aa,Ab,Ac,Ad,Ae,Af,Ag,Ah,Ai,Aj,Ak,Al,Am,An,Ao,Ap,σ 0,σ 1,.slice p4 s.sent.length d4,σ 3,σ 4,.slice p5 s.got.length d5,σ 6,σ 7,.slice p6 s.acks.length d6,.pointer (some ⟨gs,6,none⟩),.pointer (some ⟨gs,7,none⟩),.pointer (some ⟨gs,8,none⟩),Aq],[]⟩ w3)) :
  Code.wp prog (.region 8 ((f32.body.bind (QaF 8)).getD #[]) true) Q ⟨#[y0,.pointer (some ⟨gs,0,none⟩),y2,y3,y4,y5,y6,y7,y8,y9,A0,A1,A2,A3,A4,A5,A6,A7,A8,A9,Aa,Ab,Ac,Ad,Ae,Af,Ag,Ah,Ai,Aj,Ak,Al,Am,An,Ao,Ap,At,Au,Av,Aw,Ax,Ay,Az,AA,AB,AC,Ar,As,Aq],[]⟩ w:=by
 conv=>arg 2;arg 2;whnf
 conv=>arg 4;dsimp only
 unfold few at D
 refine Qfc 10 (by kernel_rfl) (fun σ=>#[y0,.pointer (some ⟨gs,0,none⟩),y2,y3,y4,y5,y6,y7,y8,y9,A0,A1,A2,A3,A4,A5,A6,A7,A8,A9,Aa,Ab,Ac,Ad,Ae,Af,Ag,Ah,Ai,Aj,Ak,Al,Am,An,Ao,Ap,σ 0,σ 1,σ 2,σ 3,σ 4,σ 5,σ 6,σ 7,σ 8,σ 9,Ar,As,Aq]) (fun i=>([At,Au,Av,Aw,Ax,Ay,Az,AA,AB,AC]:List Value).getD i undef) rfl (fun i lo hi X W=>match i with
  | 0=>X=.pointer (some ⟨gs,6,none⟩)
  | 1=>X=.slice o4 s.sent.length c4
  | 2=>MkI N lo hi W X s.sent
  | 3=>X=.pointer (some ⟨gs,7,none⟩)
  | 4=>X=.slice o5 s.got.length c5
  | 5=>MkI N lo hi W X s.got
  | 6=>X=.pointer (some ⟨gs,8,none⟩)
  | 7=>X=.slice o6 s.acks.length c6
  | 8=>MkI N lo hi W X s.acks
  | 9=>X=.pointer (some ⟨gs,6,none⟩)
  | _=>True) ?_ (by kernel_rfl) ?_ ?_
 ·intro i lo hi X W W' HB H
  iterate 10 (obtain _ | i:=i;first | exact H | exact MkI.below H HB)
  exact trivial
 ·refine ⟨?_,?_,?_,?_,?_,?_,?_,?_,?_,?_,trivial⟩
  all_goals
   intro σ W HJ C;simp at C;have HJ:=hid HJ;have kc:=(rg z HJ).cell;have q:=hid (hm.out.below (HJ.out.mono hN));have j:=Bh hN HJ.out.size
  iterate 2 (· refine Qb rfl rfl ?_;go_simp;exact QbI.mk0 _ (by first | rfl | simp [Qn, *]) rfl)
  ·have HC:=hid (Qaw s.sent _ N W q.out.sent j (by omega) m.out.sent)
   refine Qb rfl rfl ?_;go_simp;refine HC.out.mono ?_;rintro e w2 ⟨b,v',rfl,hh⟩;exact QbI.mk v' (by first | rfl | simp [Qn, *]) b (hh.marks (Bh j b.size))
  iterate 2 (· refine Qb rfl rfl ?_;go_simp;exact QbI.mk0 _ (by first | rfl | simp [Qn, *]) rfl)
  ·have HC:=hid (Qaw s.got _ N W q.out.got j (by omega) m.out.got)
   refine Qb rfl rfl ?_;go_simp;refine HC.out.mono ?_;rintro e w2 ⟨b,v',rfl,hh⟩;exact QbI.mk v' (by first | rfl | simp [Qn, *]) b (hh.marks (Bh j b.size))
  iterate 2 (· refine Qb rfl rfl ?_;go_simp;exact QbI.mk0 _ (by first | rfl | simp [Qn, *]) rfl)
  ·have HC:=hid (Qaw s.acks _ N W q.out.acks j (by omega) m.out.acks)
   refine Qb rfl rfl ?_;go_simp;refine HC.out.mono ?_;rintro e w2 ⟨b,v',rfl,hh⟩;exact QbI.mk v' (by first | rfl | simp [Qn, *]) b (hh.marks (Bh j b.size))
  iterate 1 (· refine Qb rfl rfl ?_;go_simp;exact QbI.mk0 _ (by first | rfl | simp [Qn, *]) rfl)
 ·intro σ lo hi W hj hg
  simp only [BU,BS];have r2:MkI N (lo 2) (hi 2) W (σ 2) s.sent:=(hg.1 2 (by decide)).1
  have r5:MkI N (lo 5) (hi 5) W (σ 5) s.got:=(hg.1 5 (by decide)).1
  have r8:MkI N (lo 8) (hi 8) W (σ 8) s.acks:=(hg.1 8 (by decide)).1
  have e9:σ 9=.pointer (some ⟨gs,6,none⟩):=(hg.1 9 (by decide)).1
  have q2:=(hg.1 2 (by decide)).2
  have q5:=(hg.1 5 (by decide)).2
  have q8:=(hg.1 8 (by decide)).2
  have A:=hid (QcN.of (base:=w.heap.size) r2 r5 r8 hN ⟨⟨q2.1,q2.2.2⟩,⟨q5.1,q5.2.2⟩,⟨q8.1,q8.2.2⟩⟩ (Bh hN hj.size) (hg.2 2 5 (by decide) (by decide) (by decide)) (hg.2 2 8 (by decide) (by decide) (by decide)) (hg.2 5 8 (by decide) (by decide) (by decide)))
  obtain ⟨oc2,cc2,e2⟩:=r2.shape;obtain ⟨oc5,cc5,e5⟩:=r5.shape;obtain ⟨oc8,cc8,e8⟩:=r8.shape;rw [e2,e5,e8] at A;have hr:=z.out.below hj z.out.lt;have kc:=hr.cell;have zc:=hr.frozen;have HR:=hid hr;have HJ:=hid hj;clear hg hr hj q2 q5 q8 r2 r5 r8;rw [e2,e5,e8,e9];clear e2 e5 e8 e9;go_wp2;exact hQ.out σ _ _ _ _ _ _ W _ HJ.out ((((JJ.refl gs W).cell 6 _).cell 7 _).cell 8 _) (((HR.out.set 6 _).set 7 _).set 8 _) A.out
theorem Yl.on {α:Type} {t:TypeId} {R:World→Nat→List Value→α→Prop} {k N base:Nat} {w w':World} {v:Value} {l:List α} (h:Yl t R k N base w v l) (hb:Below 0 w w') (hk:∀ b,b<w.heap.size→b<N∨base≤b→w'.heap[b]?=w.heap[b]?):Yl t R k N base w' v l:=by
 obtain ⟨rs,h1,h2,h3⟩:=h;exact ⟨rs,h1,h2.keep fun g hg=>hk g (h2.own g hg).2 (.inr (h2.own g hg).1),fun i r x hr hx=>((h3 i r x hr hx).on hb (fun b hF=>hk b hF.2.2 hF.2.1)).wide (fun b hF=>⟨hF.1,hF.2.1,Bt hF.2.2 hb.size⟩) (fun b hF=>hF.2.2)⟩
theorem Row.setRow {w:World} {g:Nat} {t:TypeId} {b:List Value} (h:Row w g t b) (cs:List Value):Row (w.setRow g cs.toArray) g t cs:=Ck w g b.toArray cs.toArray t (0,0) h
theorem Qf.ne {t u:TypeId} {k j:Nat} {w:World} {b1 b2:Nat} {v x:Value} {rs qs:List (List Value)} (h:Qf t k w b1 v rs) (h':Qf u j w b2 x qs) (htu:t≠u):∀ b,v.ownBlock=some b→x.ownBlock≠some b:=by
 obtain ⟨_,_,h⟩:=h;obtain ⟨_,_,h'⟩:=h'
 grind [Value.ownBlock]
theorem Jp.make {N base m1 m2:Nat} {w:World} {s:St} {v1 v2 v3 v4 v5 v6 v7:Value} (hN:N≤base) (hm:base≤m1∧m1≤m2) (h1:QM (fun b=>(b<N∨base≤b)∧b<m1) w (fun w2=>Qt ClR 4 w2 w2.heap.size v1 s.clients))
  (h2:JA 82 Q5 4 w m1 v2 s.conns) (h3:JA 86 Qr 7 w m1 v3 s.chans) (h7:JA 70 YO 3 w m1 v7 s.purses)
  (n2:∀ b,v2.ownBlock=some b→b<m2) (n3:∀ b,v3.ownBlock=some b→b<m2) (n7:∀ b,v7.ownBlock=some b→b<m2)
  (h4:QM (fun b=>(b<N∨m2≤b)∧b<w.heap.size) w (fun w2=>Qt MkR 3 w2 w2.heap.size v4 s.sent)) (h5:QM (fun b=>(b<N∨m2≤b)∧b<w.heap.size) w (fun w2=>Qt MkR 3 w2 w2.heap.size v5 s.got)) (h6:QM (fun b=>(b<N∨m2≤b)∧b<w.heap.size) w (fun w2=>Qt MkR 3 w2 w2.heap.size v6 s.acks)) :
  Jp N base w s v1 v2 v3 v4 v5 v6 v7:=by
 have t23:=Qf.ne h2 h3 (by decide)
 have t27:=Qf.ne h2 h7 (by decide)
 have t37:=Qf.ne h3 h7 (by decide)
 have W:∀ (i:Nat) (P:World→Prop),i=4∨i=5∨i=6→QM (fun b=>(b<N∨m2≤b)∧b<w.heap.size) w P→QM (fun b=>(i=1∧(b<N∨base≤b)∧b<m1)∨(i=2∧v2.ownBlock=some b)∨(i=3∧v3.ownBlock=some b)∨(i=7∧v7.ownBlock=some b)∨((i=4∨i=5∨i=6)∧(b<N∨m2≤b)∧b<w.heap.size)) w P:=fun i P hi hP =>
  hP.wide (fun b hF=>.inr (.inr (.inr (.inr ⟨hi,hF⟩)))) (fun b hF=>by grind)
 have l1:=h1.1;have o2:=h2.own;have o3:=h3.own;have o7:=h7.own;refine ⟨fun i b=>(i=1∧(b<N∨base≤b)∧b<m1)∨(i=2∧v2.ownBlock=some b)∨(i=3∧v3.ownBlock=some b)∨(i=7∧v7.ownBlock=some b)∨((i=4∨i=5∨i=6)∧(b<N∨m2≤b)∧b<w.heap.size),fun i b hF=>?_,h1.wide (fun b hF=>.inl ⟨rfl,hF⟩) (fun b hF=>?_),Qf.mono h2 hm.1,Qf.mono h3 hm.1,W 4 _ (.inl rfl) h4,W 5 _ (.inr (.inl rfl)) h5,W 6 _ (.inr (.inr rfl)) h6,Qf.mono h7 hm.1,fun b e=>⟨.inr (.inl ⟨rfl,e⟩),fun i hi hF=>?_⟩,fun b e=>⟨.inr (.inr (.inl ⟨rfl,e⟩)),fun i hi hF=>?_⟩,fun b e=>⟨.inr (.inr (.inr (.inl ⟨rfl,e⟩))),fun i hi hF=>?_⟩⟩
 all_goals clear h1 h2 h3 h4 h5 h6 h7 W;grind
theorem Jp.lower {N base base':Nat} {w:World} {s:St} {v1 v2 v3 v4 v5 v6 v7:Value} (h:Jp N base w s v1 v2 v3 v4 v5 v6 v7) (hb:base'≤base):Jp N base' w s v1 v2 v3 v4 v5 v6 v7:=by
 obtain ⟨F,h0,h1,h2,h3,h4,h5,h6,h7,k⟩:=h;exact ⟨F,fun i b hF=>(h0 i b hF).imp id (Bh hb),h1,Qf.mono h2 hb,Qf.mono h3 hb,h4,h5,h6,Qf.mono h7 hb,k⟩
def QcM (N base m:Nat) (w:World) (v:Value) (l:List Cl):Prop :=
 ∃ rs:List (List Value),rs.length=l.length∧Qf 78 4 w base v rs∧(∀ b,v.ownBlock=some b→b<m)∧∀ (i:Nat) r x,rs[i]?=some r→l[i]?=some x→QM (fun b=>some b≠v.ownBlock∧(b<N∨base≤b)∧b<m) w (fun w2=>ClR w2 w2.heap.size r x)
theorem QcM.of {N base:Nat} {w:World} {v:Value} {l:List Cl} (h:Yl 78 ClR 4 N base w v l):QcM N base w.heap.size w v l:=by
 obtain ⟨rs,h1,h2,h3⟩:=h;exact ⟨rs,h1,h2,fun b e=>(h2.own b e).2,h3⟩
theorem QcM.on {N base m:Nat} {w w':World} {v:Value} {l:List Cl} (h:QcM N base m w v l) (hb:Below 0 w w') (hk:∀ b,b<m→b<N∨base≤b→w'.heap[b]?=w.heap[b]?):QcM N base m w' v l:=by
 obtain ⟨rs,h1,h2,h3,h4⟩:=h;exact ⟨rs,h1,Qf.keep h2 fun b e=>hk b (h3 b e) (.inr (h2.own b e).1),h3,fun i r x hr hx=>(h4 i r x hr hx).on hb fun b hF=>hk b hF.2.2 hF.2.1⟩
theorem QcM.low {N base base' m:Nat} {w:World} {v:Value} {l:List Cl} (h:QcM N base m w v l) (hb:base'≤base) (hm:m≤w.heap.size):QcM N base' m w v l:=by
 obtain ⟨rs,h1,h2,h3,h4⟩:=h;exact ⟨rs,h1,h2.mono hb,h3,fun i r x hr hx=>(h4 i r x hr hx).wide (fun b hF=>⟨hF.1,hF.2.1.imp id (Bh hb),hF.2.2⟩) (fun b hF=>Bt hF.2.2 hm)⟩
def QgP (N base m:Nat) (w:World) (s:St) (v2 v3 v4 v5 v6 v7:Value):Prop:=Qu (fun b=>b<N∨m≤b) base w { s with clients:=[] } noX (Bc) v2 v3 v4 v5 v6 v7
def QeD (t:TypeId) (k base:Nat) (rs:List (List Value)) (X:Value) (W:World):Prop:=Qf t k W base X rs
theorem QeD.stay (t:TypeId) (k base:Nat) (rs:List (List Value)):Yq (QeD t k base rs):=fun _ _ _ hb h=>Qf.below h hb
theorem QeD.of {f:FuncId} {b:Array Value} {t:TypeId} {k base:Nat} {rs:List (List Value)} {W:World} (hb:base≤W.heap.size) (h:Calls prog f b W fun e w'=>Bd W w'∧∃ v',e=.returned v'∧Qf t k w' W.heap.size v' rs):Calls prog f b W fun e w'=>∃ v,e=.returned v∧Bd W w'∧QeD t k base rs v w' :=
 h.mono (by rintro e w' ⟨j,v,rfl,hr⟩;exact ⟨v,rfl,j,Qf.mono hr hb⟩)
theorem QuU (s:St) (o1 o2 o3 o4 o5 o6 o7:Option Addr) (c1 c2 c3 c4 c5 c6 c7:Nat) (N M:Nat) (w:World) (hm:Zw w M s (.slice o1 s.clients.length c1) (.slice o2 s.conns.length c2) (.slice o3 s.chans.length c3) (.slice o4 s.sent.length c4) (.slice o5 s.got.length c5) (.slice o6 s.acks.length c6) (.slice o7 s.purses.length c7)) (h6:Zw w N { s with purses:=[] } (.slice o1 s.clients.length c1) (.slice o2 s.conns.length c2) (.slice o3 s.chans.length c3) (.slice o4 s.sent.length c4) (.slice o5 s.got.length c5) (.slice o6 s.acks.length c6) (Bc)) (a8:N≤M) (hM:M≤w.heap.size) (E:s.fits) (q:few s):Calls prog 32 #[.agg #[.string s.name,Bb s.height,Bb s.time,.slice o1 s.clients.length c1,.slice o2 s.conns.length c2,.slice o3 s.chans.length c3,.slice o4 s.sent.length c4,.slice o5 s.got.length c5,.slice o6 s.acks.length c6,.slice o7 s.purses.length c7]] w fun e w'=>Bd w w'∧∃ p1 d1 p2 d2 p3 d3 p4 d4 p5 d5 p6 d6 p7 d7,e=.returned (.agg #[.string s.name,Bb s.height,Bb s.time,.slice p1 s.clients.length d1,.slice p2 s.conns.length d2,.slice p3 s.chans.length d3,.slice p4 s.sent.length d4,.slice p5 s.got.length d5,.slice p6 s.acks.length d6,.slice p7 s.purses.length d7])∧Qu (fun b=>b<N∨w.heap.size≤b) w.heap.size w' s noX (.slice p1 s.clients.length d1) (.slice p2 s.conns.length d2) (.slice p3 s.chans.length d3) (.slice p4 s.sent.length d4) (.slice p5 s.got.length d5) (.slice p6 s.acks.length d6) (.slice p7 s.purses.length d7)∧∃ m,(w.heap.size≤m∧m≤w'.heap.size)∧QcM N w.heap.size m w' (.slice p1 s.clients.length d1) s.clients∧QgP N w.heap.size m w' s (.slice p2 s.conns.length d2) (.slice p3 s.chans.length d3) (.slice p4 s.sent.length d4) (.slice p5 s.got.length d5) (.slice p6 s.acks.length d6) (.slice p7 s.purses.length d7):=by
 have hN:N≤w.heap.size:=Bh a8 hM
 have aI:=hid (show few { s with purses:=[] } from ⟨q.1,q.2.1,q.2.2.1,q.2.2.2.1,q.2.2.2.2.1,q.2.2.2.2.2.1,BF _,q.2.2.2.2.2.2.2⟩)
 have a3:=hid (show Qll { s with purses:=[] } from ⟨E.2.2.2.2.1.2,E.2.2.2.2.2.1.2,E.2.2.2.2.2.2.1.2⟩)
 have aW:=hid E.2.1.2;have aX:=hid q.2.2.2.2.2.2.2;obtain ⟨hl1,hl2,hl3,-,-,-,hl7,-⟩:=q;have HM:=hid (fun wx (hx:Bd w wx)=>hm.below (hx.mono hM))
 have aJ:=hid (fun wx (hx:Bd w wx)=>h6.below (hx.mono hN))
 clear hm h6 E
 go_in
 go_upto_region 1 with fail
 refine QdQ ?_;intro w0 F0 hs;obtain ⟨rs,O,aU,aF⟩:=(aJ.out _ F0.b).clients;have aD:N≤w0.heap.size:=by omega
 have aP:∀ r∈rs,r.length=4∧∀ x∈r,x.oneCell'=true:=fun r hr=>by
  obtain ⟨i,hi⟩:=De hr;have hil:=(Bm.1 hi).1;obtain ⟨dv,rfl,hd⟩:=aF i r (s.clients[i]'(by simp only at O;omega)) hi (Bk _)
  obtain ⟨od,cd,rfl,-⟩:=hd.shape
  exact ⟨rfl,fun x hx=>by simp at hx;rcases hx with rfl | rfl | rfl | rfl <;> rfl⟩
 have aY:=hid (Qt3 rs (.slice o1 s.clients.length c1) N w0 aU aD aP (by simp only at O;omega))
 have aK:=hid (fun w1 v1 (hb:Bd w0 w1) (hr:Qf 78 4 w1 w0.heap.size v1 rs)=>Yl.new ClR.stays O hr aF aD aD hb)
 have k3:=F0.r0.k10.2.2.2.1;have HL:=hid F0.lts;clear O aU aF aP
 go_wp2_with fail
 refine aY.out.mono ?_;rintro e w1 ⟨L,v1,rfl,aA⟩;have aG:=aK.out _ _ L aA;obtain ⟨q1,e1,rfl,-⟩:=aG.shape;have F1:=F0.go L;have ae:=L.size;have HH:=hid aG;have ah:=F1.r0.k10.2.2.2.1;have ai:=F1.r0.frozen 3;clear k3 L aA aG F0
 go_upto_region 2 with fail
 refine F1.cell 0 rfl ?_;intro w2 F2 O2;have a6:=hid (HH.out.on O2.below (fun b _ hb=>O2.same b (by omega)))
 have hsz2:w0.heap.size≤w2.heap.size:=by have:=O2.size;omega
 clear ah ai O2 F1 HH ae;have k3:=F2.r0.k10.2.2.2.1
 go_wp2_with fail
 clear k3
 go_loopw [12] (fun i wr=>∃ k:Nat,k≤s.clients.length∧i=Bb (k:Int)∧Hid (Yl 78 ClR 4 N w0.heap.size wr (.slice q1 s.clients.length e1) s.clients∧Below w0.heap.size w2 wr)) (fun i _=>s.clients.length-(intOf i).toNat)
 case atStart=>exact ⟨0,by omega,rfl,hid ⟨a6.out,Bi _ _⟩⟩
 case round =>
  obtain ⟨k,hk,rfl,HT⟩:=hrel;have F3:=F2.past HT.out.2 (by omega) HL.out
  have hszw:=HT.out.2.size
  by_cases z:k<s.clients.length
  ·obtain ⟨x,hx⟩:∃ x,s.clients[k]?=some x:=⟨_,Bk z⟩
   have hlt':(k:Int)<(s.clients.length:Int):=by omega
   obtain ⟨g,rq,r,rfl,aa,I,aR,aS,ac,ad,aT,hc,aO⟩:=HT.out.1.at hx;obtain ⟨dv,rfl,aE⟩:=ad;obtain ⟨ka,ma,rfl,-⟩:=aE.shape;have f0:=hc 0 _ rfl;have f1:=hc 1 _ rfl;have f2:=hc 2 _ rfl;have f3:=hc 3 _ rfl;simp only [BK] at f0;have aZ:=hid (And.intro f0 (And.intro f1 (And.intro f2 f3)));have HF:=hid aO;have HV:=hid (fun W (hb:Bd wr W)=>QaK x (.agg #[.string x.chain,Bb x.trust,.bool x.frozen,.slice ka x.known.length ma]) wr.heap.size W ⟨_,rfl,aE.below hb⟩ hb.size (aW.out x (Bn hx)) (aX.out x (Bn hx)))
   have HQ:=hid (And.intro aR (And.intro aS (And.intro aT hx)));have k3:=F3.r0.k10.2.2.2.1;clear hc aO aE aR aS ac aT hx
   go_upto_region 5 with fail
   refine F3.box ?_;intro w3 F4 hs3 aN;have G:=hid aN;clear f0 f1 f2 f3 k3 aN;have aH:=hid F4;clear F4 F3;apply JT 6 (by kernel_rfl) (fun W hb=>And.intro (aH.out.go hb).r0.cell (aH.out.go hb).r2.cell) (by kernel_rfl)
   ·intro σ;simp [Ql];exact rfl
   iterate 4 (apply RK.val rfl;· intro σ W hb hc ⟨hd,hu⟩;simp at hd hu;go_simp;exact rfl)
   apply RK.callG (Qpl w3.heap.size x) (Qpl.stay _ _) rfl
   ·intro σ W hb hc ⟨hd,hu⟩;simp at hd hu
    refine ⟨_,_,by go_simp <;> first | exact rfl | exact ⟨rfl,rfl⟩,(HV.out W (G.out.trans (hb.mono G.out.size))).mono ?_⟩
    rintro e w' ⟨a9,o,m,ps,rfl,h1,h2⟩;exact ⟨_,rfl,a9,o,m,ps,rfl,h1.mono hb.size,h2⟩
   iterate 1 (apply RK.val rfl;· intro σ W hb hc ⟨hd,hu⟩;simp at hd hu;go_simp;exact rfl)
   intro σ w4 C _;simp only [JE,Bv,By,Nat.reduceAdd];intro hF;obtain ⟨-,-,-,-,⟨o,m,ps,e4,T,aQ⟩,e5,-⟩:=hF;have A:Bd wr w4:=G.out.trans (C.mono G.out.size);obtain ⟨d0,d1,d2,d3⟩:=aZ.out;have g0:=(A.cell (p:=⟨g,k*4,none⟩) I).trans d0;have g1:=(A.cell (p:=⟨g,k*4+1,none⟩) I).trans d1;have g2:=(A.cell (p:=⟨g,k*4+2,none⟩) I).trans d2;have g3:=(A.cell (p:=⟨g,k*4+3,none⟩) I).trans d3;have gz:=fun o=>(World.frozen?_of_block (a:=⟨g,o,none⟩) (A.block g I)).trans (HF.out o)
   simp only [BU,BS,e4,e5];clear d0 d1 d2 d3 e4 e5
   have aL:=hid (show QM (fun b=>b≠g∧(b<N∨w0.heap.size≤b)∧b<w4.heap.size) w4 (fun wz=>ClR wz wz.heap.size [.string x.chain,Bb x.trust,.bool x.frozen,.slice o ps.length m] x) from
    ⟨fun b hb=>hb.2.2,fun wz hz ab=>⟨_,rfl,by rw [← aQ];exact T.held.2 wz hz fun b hF=>ab b ⟨by omega,.inr (by have:=G.out.size;omega),hF.2⟩⟩⟩)
   have Y:=(HQ.out.2.1.below A).put (i:=k) (r:=[.string x.chain,Bb x.trust,.bool x.frozen,.slice o ps.length m]) (by rw [HQ.out.1];exact z) ⟨rfl,fun y hy=>by simp at hy;rcases hy with rfl | rfl | rfl | rfl <;> rfl⟩
   have a5:=hid (Yl.put (t:=78) (R:=ClR) (k:=4) (N:=N) (base:=w0.heap.size) (n:=s.clients.length) (c:=e1) HQ.out.1 (fun j r y hr hy=>((HQ.out.2.2.1 j r y hr hy).below A).wide (fun b hF=>⟨hF.1,hF.2.1,Bt hF.2.2 A.size⟩) (fun b hF=>hF.2.2)) HQ.out.2.2.2 aL.out (Q3 w4 g (k*4) [.string x.chain,Bb x.trust,.bool x.frozen,.slice o ps.length m]) Y)
   have a4:=hid (show Below w0.heap.size w2 (w4.setCells g (k*4) [.string x.chain,Bb x.trust,.bool x.frozen,.slice o ps.length m]) from JP aa _ _ _ (HT.out.2.trans (A.mono (by omega))))
   clear C T aQ A Y aL HQ;go_wp2;go_roundw
   case rel=>exact ⟨k+1,by omega,by go_num,hid ⟨a5.out,a4.out⟩⟩
   case measure=>simp [intOf];omega
  ·have hge:decide ((k:Int)<(s.clients.length:Int))=false:=by simp;omega
   have H1:=hid HT.out.1.held;have J1:=hid (QcM.of HT.out.1)
   go_upto_region 7 with fail
   apply JT 10 (by kernel_rfl) (fun W hb=>(F3.go hb).r0.cell) (by kernel_rfl)
   ·intro σ;simp [Ql];exact rfl
   iterate 2 (apply RK.val rfl;· intro σ W hb hc ⟨hd,hu⟩;simp at hd hu;go_simp;exact rfl)
   apply RK.callG (QeD 82 4 wr.heap.size (s.conns.map Q5)) (QeD.stay _ _ _ _) rfl
   ·intro σ W hb hc ⟨hd,hu⟩;simp at hd hu
    exact ⟨_,_,by go_simp <;> first | exact rfl | exact ⟨rfl,rfl⟩,QeD.of hb.size (Qt4 (s.conns.map Q5) _ M W (Qem (HM.out _ (F3.go hb).b).conns) (Bh hM (F3.go hb).b.size) Qee (by rw [Bp];omega))⟩
   iterate 2 (apply RK.val rfl;· intro σ W hb hc ⟨hd,hu⟩;simp at hd hu;go_simp;exact rfl)
   apply RK.callG (QeD 86 7 wr.heap.size (s.chans.map Qr)) (QeD.stay _ _ _ _) rfl
   ·intro σ W hb hc ⟨hd,hu⟩;simp at hd hu
    exact ⟨_,_,by go_simp <;> first | exact rfl | exact ⟨rfl,rfl⟩,QeD.of hb.size (Qt2 (s.chans.map Qr) _ M W (Qem (HM.out _ (F3.go hb).b).chans) (Bh hM (F3.go hb).b.size) Qec (by rw [Bp];omega))⟩
   iterate 2 (apply RK.val rfl;· intro σ W hb hc ⟨hd,hu⟩;simp at hd hu;go_simp;exact rfl)
   apply RK.callG (QeD 70 3 wr.heap.size (s.purses.map YO)) (QeD.stay _ _ _ _) rfl
   ·intro σ W hb hc ⟨hd,hu⟩;simp at hd hu
    exact ⟨_,_,by go_simp <;> first | exact rfl | exact ⟨rfl,rfl⟩,QeD.of hb.size (QoL (s.purses.map YO) _ M W (Qem (HM.out _ (F3.go hb).b).purses) (Bh hM (F3.go hb).b.size) Qn1 (by rw [Bp];omega))⟩
   iterate 1 (apply RK.val rfl;· intro σ W hb hc ⟨hd,hu⟩;simp at hd hu;go_simp;exact rfl)
   intro σ w4 C _;simp only [JE,Bv,By,Nat.reduceAdd];intro hF;obtain ⟨-,-,h2,-,-,h3,-,-,h7,e9,-⟩:=hF;have F4:=F3.go C;have kc:=F4.r0.cell;have zc:=F4.r0.frozen;simp only [BU,BS,e9];obtain ⟨q2,e2,y2,-⟩:=Qf.shape h2;obtain ⟨q3,e3,y3,-⟩:=Qf.shape h3;obtain ⟨q7,e7,y7,-⟩:=Qf.shape h7;unfold QeD at h2 h3 h7;rw [y2] at h2;rw [y3] at h3;rw [y7] at h7;have n2:=fun b e=>h2.own b e
   have n3:=fun b e=>h3.own b e
   have n7:=fun b e=>h7.own b e
   have HR:=hid (And.intro h2 (And.intro h3 h7));have H4:=hid (H1.out.below C);have J4:=hid (J1.out.on (C.mono (BF _)) fun b z _=>C.block b z)
   have hw4:=C.size;simp only [Bp] at HR n2 n3 n7 y2 y3 y7;simp only [y2,y3,y7];clear y2 y3 y7 e9 h2 h3 h7 C
   go_upto_region 8 with fail
   refine (((F4.set1 0 4 _ rfl).set1 0 5 _ rfl).set1 0 9 _ rfl).named (((JJ.refl w.heap.size w4).cell 4 _).cell 5 _ |>.cell 9 _) ?_;intro w5 F5 O5;have G1:=hid (H4.out.on O5.below (fun b hF=>O5.same b (by omega)))
   have J5:=hid (J4.out.on O5.below (fun b z hF=>O5.same b (by omega)))
   have G2:=hid (show JA 82 Q5 4 w5 wr.heap.size (.slice q2 s.conns.length e2) s.conns from JA.keep HR.out.1 (fun b e=>O5.same b (by have:=n2 b e;omega)))
   have G3:=hid (show JA 86 Qr 7 w5 wr.heap.size (.slice q3 s.chans.length e3) s.chans from JA.keep HR.out.2.1 (fun b e=>O5.same b (by have:=n3 b e;omega)))
   have G7:=hid (show JA 70 YO 3 w5 wr.heap.size (.slice q7 s.purses.length e7) s.purses from JA.keep HR.out.2.2 (fun b e=>O5.same b (by have:=n7 b e;omega)))
   have S:=O5.size;have a7:=hid S;clear kc zc HR H4 J4 O5 S F4
   refine Qve { s with purses:=[] } q1 q2 q3 q7 o4 o5 o6 e1 s.conns.length e2 s.chans.length e3 s.purses.length e7 c4 c5 c6 (.slice o1 s.clients.length c1) (.slice o2 s.conns.length c2) (.slice o3 s.chans.length c3) (Bc) (N:=N) (by have:=F5.b.size;omega) (hid F5.r0) (hid (aJ.out _ F5.b)) aI.out a3 _ (hid ?_)
   intro τ p4 p5 p6 d4 d5 d6 w6 w7 D O7 aV h4;have S:=a7.out;have ag:=D.size;have F7:=(F5.go D).only (i:=0) rfl aV O7;have af:=O7.size;have I2:=JA.keep (G2.out.below D) (fun b e=>O7.same b (by have:=n2 b e;omega))
   have I3:=JA.keep (G3.out.below D) (fun b e=>O7.same b (by have:=n3 b e;omega))
   have I7:=JA.keep (G7.out.below D) (fun b e=>O7.same b (by have:=n7 b e;omega))
   have aB:=fun (l:List Cl) base (h1:base≤wr.heap.size∧N≤wr.heap.size) v h=>Qu.make (s:={ s with clients:=l }) (v1:=v) (base:=base) (m1:=wr.heap.size) (m2:=w5.heap.size) ⟨h1.1,by omega,h1.2,by omega⟩ h I2 I3 I7 (Qf.ne I2 I3 (by decide)) (Qf.ne I2 I7 (by decide)) (Qf.ne I3 I7 (by decide))
     (fun b e=>by have:=n2 b e;omega) (fun b e=>by have:=n3 b e;omega) (fun b e=>by have:=n7 b e;omega) (h4.on O7.below (fun b z hF=>O7.same b (by omega)))
   have aM:=hid (aB s.clients w0.heap.size ⟨by omega,by omega⟩ _ ((G1.out.below D).on O7.below (fun b hF=>O7.same b (by omega))))
   have J7:=hid ((J5.out.on (D.mono (BF _)) fun b z _=>D.block b (by omega)).on O7.below (fun b z hF=>O7.same b (by omega)))
   have aC:=hid (show QgP N wr.heap.size wr.heap.size w7 s (.slice q2 s.conns.length e2) (.slice q3 s.chans.length e3) (.slice p4 s.sent.length d4) (.slice p5 s.got.length d5) (.slice p6 s.acks.length d6) (.slice q7 s.purses.length e7) from
    aB [] wr.heap.size ⟨Bj _,by omega⟩ _ ⟨fun b hF=>by omega,fun w2 _ _=>Qt.nil _ _ _ _⟩)
   clear aB aV J1 J5 I2 I3 I7 h4 D G1 G2 G3 G7 n2 n3 n7 O7 F5;have HZ:=hid (show w.heap.size≤wr.heap.size∧wr.heap.size≤w7.heap.size by omega)
   clear S af ag
   go_wp2_with (first | refine F7.load 0 rfl Qa ?_ | refine F7.store 1 rfl Qa (by simp) ?_;intro w8 F8 O8)
   have hs8:=O8.size;have hz:=HZ.out;exact Qfe results32 rfl F8.r1 Qa rfl ⟨F8.b,q1,e1,q2,e2,q3,e3,p4,d4,p5,d5,p6,d6,q7,e7,rfl,((aM.out.on O8.below (fun b _ (z:b<N∨w0.heap.size≤b)=>O8.same b (by omega))).lower (by omega)).wide (fun b _ h=>h.imp id (fun h=>by omega)),wr.heap.size,⟨hz.1,by omega⟩,(J7.out.on O8.below (fun b _ (z:b<N∨w0.heap.size≤b)=>O8.same b (by omega))).low (by omega) (by omega),(aC.out.on O8.below (fun b _ (z:b<N∨wr.heap.size≤b)=>O8.same b (by omega))).lower (by omega)⟩
theorem QrC (s:St) (o1 o2 o3 o4 o5 o6 o7:Option Addr) (c1 c2 c3 c4 c5 c6 c7:Nat) (N M:Nat) (w:World) (hm:Zw w M s (.slice o1 s.clients.length c1) (.slice o2 s.conns.length c2) (.slice o3 s.chans.length c3) (.slice o4 s.sent.length c4) (.slice o5 s.got.length c5) (.slice o6 s.acks.length c6) (.slice o7 s.purses.length c7)) (h6:Zw w N { s with purses:=[] } (.slice o1 s.clients.length c1) (.slice o2 s.conns.length c2) (.slice o3 s.chans.length c3) (.slice o4 s.sent.length c4) (.slice o5 s.got.length c5) (.slice o6 s.acks.length c6) (Bc)) (q:N≤M) (hM:M≤w.heap.size) (m:s.fits) (j:few s):Calls prog 32 #[.agg #[.string s.name,Bb s.height,Bb s.time,.slice o1 s.clients.length c1,.slice o2 s.conns.length c2,.slice o3 s.chans.length c3,.slice o4 s.sent.length c4,.slice o5 s.got.length c5,.slice o6 s.acks.length c6,.slice o7 s.purses.length c7]] w fun e w'=>Bd w w'∧∃ p1 d1 p2 d2 p3 d3 p4 d4 p5 d5 p6 d6 p7 d7,e=.returned (.agg #[.string s.name,Bb s.height,Bb s.time,.slice p1 s.clients.length d1,.slice p2 s.conns.length d2,.slice p3 s.chans.length d3,.slice p4 s.sent.length d4,.slice p5 s.got.length d5,.slice p6 s.acks.length d6,.slice p7 s.purses.length d7])∧Qu (fun b=>b<N∨w.heap.size≤b) w.heap.size w' s noX (.slice p1 s.clients.length d1) (.slice p2 s.conns.length d2) (.slice p3 s.chans.length d3) (.slice p4 s.sent.length d4) (.slice p5 s.got.length d5) (.slice p6 s.acks.length d6) (.slice p7 s.purses.length d7) :=
 (QuU s o1 o2 o3 o4 o5 o6 o7 c1 c2 c3 c4 c5 c6 c7 N M w hm h6 q hM m j).mono fun _ _ ⟨hb,p1,d1,p2,d2,p3,d3,p4,d4,p5,d5,p6,d6,p7,d7,e,h,_⟩=>⟨hb,p1,d1,p2,d2,p3,d3,p4,d4,p5,d5,p6,d6,p7,d7,e,h⟩
theorem QrE (s:St) (v:Value) (N:Nat) (w:World) (hv:StV w N v s) (hN:N≤w.heap.size) (m:s.fits) (j:few s):Calls prog 32 #[v] w fun e w'=>Bd w w'∧∃ p1 d1 p2 d2 p3 d3 p4 d4 p5 d5 p6 d6 p7 d7,e=.returned (.agg #[.string s.name,Bb s.height,Bb s.time,.slice p1 s.clients.length d1,.slice p2 s.conns.length d2,.slice p3 s.chans.length d3,.slice p4 s.sent.length d4,.slice p5 s.got.length d5,.slice p6 s.acks.length d6,.slice p7 s.purses.length d7])∧Qu (fun b=>b<N∨w.heap.size≤b) w.heap.size w' s noX (.slice p1 s.clients.length d1) (.slice p2 s.conns.length d2) (.slice p3 s.chans.length d3) (.slice p4 s.sent.length d4) (.slice p5 s.got.length d5) (.slice p6 s.acks.length d6) (.slice p7 s.purses.length d7):=by
 obtain ⟨o1,c1,o2,c2,o3,c3,o4,c4,o5,c5,o6,c6,o7,c7,rfl,hm⟩:=hv.open;exact QrC s o1 o2 o3 o4 o5 o6 o7 c1 c2 c3 c4 c5 c6 c7 N N w hm ⟨hm.clients,hm.conns,hm.chans,hm.sent,hm.got,hm.acks,Qt.nil _ _ _ _⟩ (Bj _) hN m j
theorem QlH:QvB 32:=by
 intro s v N w hv hN j b;refine (QrE s v N w hv hN j b).mono ?_;rintro e w' ⟨hb,p1,d1,p2,d2,p3,d3,p4,d4,p5,d5,p6,d6,p7,d7,rfl,h⟩;exact ⟨hb,p1,d1,p2,d2,p3,d3,p4,d4,p5,d5,p6,d6,p7,d7,rfl,h.toOwn⟩
end Go.Proofs.YtnedafiokmjkkaaGreatDoor
