/- Package state's Copy. -/
import Derived.Test.YtnedafiokmjkkaaGreatDoorraStSlots
import Derived.Laws.CopyOwn
namespace Go.Proofs.YtnedafiokmjkkaaGreatDoor
open Tryz
set_option maxRecDepth 1000000
set_option maxHeartbeats 8000000
open Go.RowKit
section
variable (P:Program) (ops:Array Oper) (Q:Exit→Act→World→Prop) (fr:(Nat→Value)→Array Value) (G:Nat→Nat→Nat→Value→World→Prop) (w0:World)
def QbF (i:Nat) (σ:Nat→Value) (w:World) (a':Act) (w':World):Prop:=∃ v,a'=⟨fr (Qn σ i v),[]⟩∧Bd w w'∧G i w.heap.size w'.heap.size v w'
def QiW:Nat→List Oper→Prop
 | _,[]=>True
 | i,o :: l=>(∀ (σ:Nat→Value) (w:World),Bd w0 w→(∀ e∈o.after,Region.binds .any e=true→∃ lo hi,G e.on lo hi (σ e.on) w)→wpOp P ops Q i (QbF fr G i σ w) ⟨fr σ,[]⟩ w)∧QiW (i+1) l
end
theorem QiW.get {P:Program} {b:Array Oper} {Q:Exit→Act→World→Prop} {fr:(Nat→Value)→Array Value} {G:Nat→Nat→Nat→Value→World→Prop} {w0:World} :
  ∀ (l:List Oper) (k i:Nat) (o:Oper),QiW P b Q fr G w0 k l→l[i]?=some o→∀ (σ:Nat→Value) (w:World),Bd w0 w→(∀ e∈o.after,Region.binds .any e=true→∃ lo hi,G e.on lo hi (σ e.on) w)→wpOp P b Q (k+i) (QbF fr G (k+i) σ w) ⟨fr σ,[]⟩ w
 | [],_,_,_,_,h=>by simp at h
 | x :: l,k,i,o,hs,h=>by
  cases i with
  | zero =>
   obtain rfl:x=o:=by simpa using h
   exact hs.1
  | succ i =>
   have:=QiW.get l (k+1) i o hs.2 (by simpa using h)
   rw [show k+(i+1)=k+1+i by omega]
   exact this
theorem QbF.mk {fr:(Nat→Value)→Array Value} {G:Nat→Nat→Nat→Value→World→Prop} {i:Nat} {σ:Nat→Value} {w w':World} {a':Act} (v:Value) (ha:a'=⟨fr (Qn σ i v),[]⟩) (hb:Bd w w') (hg:G i w.heap.size w'.heap.size v w'):QbF fr G i σ w a' w':=⟨v,ha,hb,hg⟩
theorem QbF.mk0 {fr:(Nat→Value)→Array Value} {G:Nat→Nat→Nat→Value→World→Prop} {i:Nat} {σ:Nat→Value} {w:World} {a':Act} (v:Value) (ha:a'=⟨fr (Qn σ i v),[]⟩) (hg:G i w.heap.size w.heap.size v w):QbF fr G i σ w a' w:=⟨v,ha,Bi _ _,hg⟩
def QkX (f:Nat→Nat) (i n:Nat):Nat→Nat:=fun j=>if j=i then n else f j
def Qk5 (G:Nat→Nat→Nat→Value→World→Prop) (w0:World) (up:Nat→Prop) (σ:Nat→Value) (lo hi:Nat→Nat) (w:World):Prop :=
 (∀ i,up i→G i (lo i) (hi i) (σ i) w∧w0.heap.size≤lo i∧lo i≤hi i∧hi i≤w.heap.size)∧∀ i j,up i→up j→i≠j→hi i≤lo j∨hi j≤lo i
theorem Qk5.next {G:Nat→Nat→Nat→Value→World→Prop} {w0 w w':World} {up q:Nat→Prop} {σ:Nat→Value} {lo hi:Nat→Nat} (d:∀ i lo hi v w w',Bd w w'→G i lo hi v w→G i lo hi v w') (h:Qk5 G w0 up σ lo hi w) {i:Nat} {v:Value} (hb:Bd w w') (h0:w0.heap.size≤w.heap.size) (hg:G i w.heap.size w'.heap.size v w') (b:∀ j,q j→j=i∨up j) :
  Qk5 G w0 q (Qn σ i v) (QkX lo i w.heap.size) (QkX hi i w'.heap.size) w':=by
 obtain ⟨h1,h2⟩:=h;refine ⟨fun j hj=>?_,fun j k hj hk m=>?_⟩
 ·by_cases e:j=i
  ·subst e
   simp only [Qn,QkX];exact ⟨hg,h0,hb.size,Bj _⟩
  ·simp only [Qn,QkX,if_neg e]
   obtain ⟨g1,g2,g3,g4⟩:=h1 j ((b j hj).resolve_left e);exact ⟨d j _ _ _ w w' hb g1,g2,g3,Bh g4 hb.size⟩
 ·by_cases e:j=i
  ·subst e
   have ek:k≠j:=fun h=>m h.symm
   simp only [QkX,if_neg ek];exact .inr (h1 k ((b k hk).resolve_left ek)).2.2.2
  ·by_cases ek:k=i
   ·subst ek
    simp only [QkX,if_neg e];exact .inl (h1 j ((b j hj).resolve_left e)).2.2.2
   ·simp only [QkX,if_neg e,if_neg ek]
    exact h2 j k ((b j hj).resolve_left e) ((b k hk).resolve_left ek) m
theorem Qe8 {P:Program} {id:Nat} {Q:Exit→Act→World→Prop} {w:World} {l:List Oper} {a0:Act} (n:Nat) (hm:P.follows .mixedOrders=true) (fr:(Nat→Value)→Array Value) (σ0:Nat→Value) (h0:a0=⟨fr σ0,[]⟩)
  (G:Nat→Nat→Nat→Value→World→Prop) (m:∀ i lo hi v w w',Bd w w'→G i lo hi v w→G i lo hi v w') (hB:QoV l n=true)
  (q:QiW P l.toArray Q fr G w 0 (l.take n))
  (E:∀ (σ:Nat→Value) (lo hi:Nat→Nat) (w':World),Bd w w'→Qk5 G w (fun i=>i<n) σ lo hi w'→wpList P l.toArray Q (l.drop n) ⟨fr σ,[]⟩ w'):(Code.region id l.toArray true).wp P Q a0 w:=by
 subst h0;simp only [QoV,BW,BR] at hB;obtain ⟨hn,hs,hc,z,L⟩:=hB;refine wp_region_any hm ?_;have hsz:l.toArray.size=l.length:=by simp
 have S:HeadInv .any l.toArray n (Array.replicate l.toArray.size false) :=
  ⟨by simp,fun j oj _ hx=>(by rw [Ca] at hx;cases hx),fun t _ ht=>getD_in (by simpa using ht) (Ca _ _)⟩
 have K:=QgS (P:=P) (Q:=Q) (n:=n) (fun s a w'=>∃ (σ:Nat→Value) (lo hi:Nat→Nat),s.size=l.length∧a=⟨fr σ,[]⟩∧Bd w w'∧Qk5 G w (fun i=>i<n∧s.getD i false=true) σ lo hi w') hs hc hn
  (fun i o ho e he hb=>by have:=QR l 0 i o z (by simpa using ho) e he hb;omega)
  (by
   rintro s a w' ⟨σ,lo,hi,M,rfl,hj,hg⟩ i aA b;obtain ⟨hun,o,ho,C⟩:=BY.1 aA;have ho':l[i]?=some o:=by simp_all
   have aD:(l.take n)[i]?=some o:=by simp_all
   have A:=QR l 0 i o z ho';have O:=QiW.get (l.take n) 0 i o q aD σ w' hj (fun e he hb=>⟨lo e.on,hi e.on,(hg.1 _ ⟨by have:=A e he hb;omega,C e he hb⟩).1⟩)
   rw [Bq] at O;refine CB ?_ O;rintro a2 w2 ⟨v,rfl,hr,T⟩;refine ⟨Qn σ i v,QkX lo i w'.heap.size,QkX hi i w2.heap.size,by simpa using M,rfl,hj.trans (hr.mono hj.size),hg.next m hr hj.size T fun j I=>?_⟩
   by_cases e:j=i
   ·omega
   ·refine .inr ⟨I.1,?_⟩
    have:=I.2;rw [BL false (Ne.symm e)] at this
    exact this)
  (by
   rintro s a w' hi ⟨σ,lo,Y,M,rfl,hj,hg⟩ d
   have he:s=(List.replicate n true ++ List.replicate (l.toArray.size-n) false).toArray:=by
    apply Array.ext
    ·grind
    ·intro i h1 h2
     by_cases b:i<n
     ·have h3:=d i b
      simp [h1] at h3;rw [h3];simp [b]
     ·have h3:=hi.tail i (by omega) (by omega)
      simp [h1] at h3;rw [h3];simp [List.getElem_append,b]
   have D:(l.drop n).length=l.toArray.size-n:=by simp
   have up:∀ i,i<n→i<n∧s.getD i false=true:=fun i b=>⟨b,by
    have h3:=d i b;have aB:i<s.size:=by omega
    simp [aB] at h3 ⊢
    exact h3⟩
   have hw:=E σ lo Y w' hj ⟨fun i b=>hg.1 i (up i b),fun i j h1 h2 aC=>hg.2 i j (up i h1) (up j h2) aC⟩
   have:=wpAny_of_seq (md:=.any) (Q':=Q) (l.drop n) n s ⟨fr σ,[]⟩ w' (fun j=>by simp) (by rw [D,he];exact L) hw
   rwa [D] at this)
  n (Array.replicate l.toArray.size false) ⟨fr σ0,[]⟩ w.drew (by simp [Qcx];omega) S ⟨σ0,fun _=>0,fun _=>0,by simp,rfl,(Bi _ _).drew,fun i hi=>(by have h:=hi.2;rw [Ca] at h;cases h),fun i j hi=>(by have h:=hi.2;rw [Ca] at h;cases h)⟩
 rwa [show n+(l.toArray.size-n)=l.toArray.size by omega] at K
def few (s:St):Prop:=s.clients.length≤100∧s.conns.length≤100∧s.chans.length≤100∧s.sent.length≤100∧s.got.length≤100∧s.acks.length≤100∧s.purses.length≤100∧∀ c∈s.clients,c.known.length≤1000
structure Qk6 (s:St):Prop where
 sent:∀ m∈s.sent,m.fits
 got:∀ m∈s.got,m.fits
 acks:∀ m∈s.acks,m.fits
theorem Qea {l:List Cn}:∀ r∈l.map Q5,r.length=4∧∀ x∈r,x.oneCell'=true:=fun r hr=>by
 obtain ⟨c,_,rfl⟩:=BD.1 hr;refine ⟨rfl,fun x hx=>?_⟩
 simp [Q5] at hx
 rcases hx with rfl | rfl | rfl | rfl <;> rfl
theorem Qd8 {l:List Ch}:∀ r∈l.map Qr,r.length=7∧∀ x∈r,x.oneCell'=true:=fun r hr=>by
 obtain ⟨c,_,rfl⟩:=BD.1 hr;refine ⟨rfl,fun x hx=>?_⟩
 simp [Qr] at hx
 rcases hx with rfl | rfl | rfl | rfl | rfl | rfl | rfl <;> rfl
theorem QnM {l:List Pu}:∀ r∈l.map YM,r.length=3∧∀ x∈r,x.oneCell'=true:=fun r hr=>by
 obtain ⟨c,_,rfl⟩:=BD.1 hr;refine ⟨rfl,fun x hx=>?_⟩
 simp [YM] at hx
 rcases hx with rfl | rfl | rfl <;> rfl
def Qvp (f:FuncId):Prop:=∀ (s:St) (v:Value) (N:Nat) (w:World),StV w N v s→N≤w.heap.size→s.fits→few s →
 Calls prog f #[v] w fun e w'=>Bd w w'∧∃ p1 d1 p2 d2 p3 d3 p4 d4 p5 d5 p6 d6 p7 d7,e=.returned (.agg #[.string s.name,Bb s.height,Bb s.time,.slice p1 s.clients.length d1,.slice p2 s.conns.length d2,.slice p3 s.chans.length d3,.slice p4 s.sent.length d4,.slice p5 s.got.length d5,.slice p6 s.acks.length d6,.slice p7 s.purses.length d7])∧Jn N w.heap.size w' s (.slice p1 s.clients.length d1) (.slice p2 s.conns.length d2) (.slice p3 s.chans.length d3) (.slice p4 s.sent.length d4) (.slice p5 s.got.length d5) (.slice p6 s.acks.length d6) (.slice p7 s.purses.length d7)
theorem Qu3 {y0 y2 y3 y4 y5 y6 y7 y8 y9 A0 A1 A2 A3 A4 A5 A6 A7 A8 A9 Aa Ab Ac Ad Ae Af Ag Ah Ai Aj Ak Al Am An Ao Ap Ar As Aq At Au Av Aw Ax Ay Az AA AB AC:Value} {gs N:Nat} (s:St) (q1 q2 q3 q7 o4 o5 o6:Option Addr) (e1 n2 e2 n3 e3 n7 e7 c4 c5 c6:Nat) (u1 u2 u3 u7:Value) {w:World} (hN:N≤w.heap.size) (q:Hid (Row w gs 28 [.string s.name,Bb s.height,Bb s.time,.slice q1 s.clients.length e1,.slice q2 n2 e2,.slice q3 n3 e3,.slice o4 s.sent.length c4,.slice o5 s.got.length c5,.slice o6 s.acks.length c6,.slice q7 n7 e7])) (hm:Hid (Zp w N s u1 u2 u3 (.slice o4 s.sent.length c4) (.slice o5 s.got.length c5) (.slice o6 s.acks.length c6) u7)) (C:few s) (j:Hid (Qk6 s)) (Q:Exit→Act→World→Prop)
  (hQ:Hid (∀ (σ:Nat→Value) (p4 p5 p6:Option Addr) (d4 d5 d6:Nat) (w2 w3:World),Bd w w2→JH gs w2 w3→Row w3 gs 28 [.string s.name,Bb s.height,Bb s.time,.slice q1 s.clients.length e1,.slice q2 n2 e2,.slice q3 n3 e3,.slice p4 s.sent.length d4,.slice p5 s.got.length d5,.slice p6 s.acks.length d6,.slice q7 n7 e7]→QcI N w.heap.size w2 s (.slice p4 s.sent.length d4) (.slice p5 s.got.length d5) (.slice p6 s.acks.length d6)→Q .normal ⟨#[y0,.pointer (some ⟨gs,0,none⟩),y2,y3,y4,y5,y6,y7,y8,y9,A0,A1,A2,A3,A4,A5,A6,A7,A8,A9,Aa,Ab,Ac,Ad,Ae,Af,Ag,Ah,Ai,Aj,Ak,Al,Am,An,Ao,Ap,σ 0,σ 1,.slice p4 s.sent.length d4,σ 3,σ 4,.slice p5 s.got.length d5,σ 6,σ 7,.slice p6 s.acks.length d6,.pointer (some ⟨gs,6,none⟩),.pointer (some ⟨gs,7,none⟩),.pointer (some ⟨gs,8,none⟩),Aq],[]⟩ w3)) :
  Code.wp prog (.region 8 ((f32.body.bind (Qaz 8)).getD #[]) true) Q ⟨#[y0,.pointer (some ⟨gs,0,none⟩),y2,y3,y4,y5,y6,y7,y8,y9,A0,A1,A2,A3,A4,A5,A6,A7,A8,A9,Aa,Ab,Ac,Ad,Ae,Af,Ag,Ah,Ai,Aj,Ak,Al,Am,An,Ao,Ap,At,Au,Av,Aw,Ax,Ay,Az,AA,AB,AC,Ar,As,Aq],[]⟩ w:=by
 conv=>arg 2;arg 2;whnf
 conv=>arg 4;dsimp only
 unfold few at C
 refine Qe8 10 (by kernel_rfl) (fun σ=>#[y0,.pointer (some ⟨gs,0,none⟩),y2,y3,y4,y5,y6,y7,y8,y9,A0,A1,A2,A3,A4,A5,A6,A7,A8,A9,Aa,Ab,Ac,Ad,Ae,Af,Ag,Ah,Ai,Aj,Ak,Al,Am,An,Ao,Ap,σ 0,σ 1,σ 2,σ 3,σ 4,σ 5,σ 6,σ 7,σ 8,σ 9,Ar,As,Aq]) (fun i=>([At,Au,Av,Aw,Ax,Ay,Az,AA,AB,AC]:List Value).getD i undef) rfl (fun i lo hi X W=>match i with
  | 0=>X=.pointer (some ⟨gs,6,none⟩)
  | 1=>X=.slice o4 s.sent.length c4
  | 2=>MkI N lo hi W X s.sent
  | 3=>X=.pointer (some ⟨gs,7,none⟩)
  | 4=>X=.slice o5 s.got.length c5
  | 5=>MkI N lo hi W X s.got
  | 6=>X=.pointer (some ⟨gs,8,none⟩)
  | 7=>X=.slice o6 s.acks.length c6
  | 8=>MkI N lo hi W X s.acks
  | 9=>X=.pointer (some ⟨gs,6,none⟩)
  | _=>True) ?_ (by kernel_rfl) ?_ ?_
 ·intro i lo hi X W W' HB H
  iterate 10 (obtain _ | i:=i;first | exact H | exact MkI.below H HB)
  exact trivial
 ·refine ⟨?_,?_,?_,?_,?_,?_,?_,?_,?_,?_,trivial⟩
  all_goals
   intro σ W HJ A;simp at A;have HJ:=hid HJ;have kc:=(rg q HJ).cell;have m:=hid (hm.out.below (HJ.out.mono hN));have d:=Bh hN HJ.out.size
  iterate 2 (· refine Qb rfl rfl ?_;go_simp;exact QbF.mk0 _ (by first | rfl | simp [Qn, *]) rfl)
  ·have HC:=hid (Qaq s.sent _ N W m.out.sent d (by omega) j.out.sent)
   refine Qb rfl rfl ?_;go_simp;refine HC.out.mono ?_;rintro e w2 ⟨b,v',rfl,hh⟩;exact QbF.mk v' (by first | rfl | simp [Qn, *]) b (hh.marks (Bh d b.size))
  iterate 2 (· refine Qb rfl rfl ?_;go_simp;exact QbF.mk0 _ (by first | rfl | simp [Qn, *]) rfl)
  ·have HC:=hid (Qaq s.got _ N W m.out.got d (by omega) j.out.got)
   refine Qb rfl rfl ?_;go_simp;refine HC.out.mono ?_;rintro e w2 ⟨b,v',rfl,hh⟩;exact QbF.mk v' (by first | rfl | simp [Qn, *]) b (hh.marks (Bh d b.size))
  iterate 2 (· refine Qb rfl rfl ?_;go_simp;exact QbF.mk0 _ (by first | rfl | simp [Qn, *]) rfl)
  ·have HC:=hid (Qaq s.acks _ N W m.out.acks d (by omega) j.out.acks)
   refine Qb rfl rfl ?_;go_simp;refine HC.out.mono ?_;rintro e w2 ⟨b,v',rfl,hh⟩;exact QbF.mk v' (by first | rfl | simp [Qn, *]) b (hh.marks (Bh d b.size))
  iterate 1 (· refine Qb rfl rfl ?_;go_simp;exact QbF.mk0 _ (by first | rfl | simp [Qn, *]) rfl)
 ·intro σ lo hi W hj hg
  simp only [BU,BS];have r2:MkI N (lo 2) (hi 2) W (σ 2) s.sent:=(hg.1 2 (by decide)).1
  have r5:MkI N (lo 5) (hi 5) W (σ 5) s.got:=(hg.1 5 (by decide)).1
  have r8:MkI N (lo 8) (hi 8) W (σ 8) s.acks:=(hg.1 8 (by decide)).1
  have e9:σ 9=.pointer (some ⟨gs,6,none⟩):=(hg.1 9 (by decide)).1
  have q2:=(hg.1 2 (by decide)).2
  have q5:=(hg.1 5 (by decide)).2
  have q8:=(hg.1 8 (by decide)).2
  have z:=hid (QcI.of (base:=w.heap.size) r2 r5 r8 hN ⟨⟨q2.1,q2.2.2⟩,⟨q5.1,q5.2.2⟩,⟨q8.1,q8.2.2⟩⟩ (Bh hN hj.size) (hg.2 2 5 (by decide) (by decide) (by decide)) (hg.2 2 8 (by decide) (by decide) (by decide)) (hg.2 5 8 (by decide) (by decide) (by decide)))
  obtain ⟨oc2,cc2,e2⟩:=r2.shape;obtain ⟨oc5,cc5,e5⟩:=r5.shape;obtain ⟨oc8,cc8,e8⟩:=r8.shape;rw [e2,e5,e8] at z;have hr:=q.out.below hj q.out.lt;have kc:=hr.cell;have zc:=hr.frozen;have HR:=hid hr;have HJ:=hid hj;clear hg hr hj q2 q5 q8 r2 r5 r8;rw [e2,e5,e8,e9];clear e2 e5 e8 e9;go_wp2;exact hQ.out σ _ _ _ _ _ _ W _ HJ.out ((((JH.refl gs W).cell 6 _).cell 7 _).cell 8 _) (((HR.out.set 6 _).set 7 _).set 8 _) z.out
theorem Ym.on {α:Type} {t:TypeId} {R:World→Nat→List Value→α→Prop} {k N base:Nat} {w w':World} {v:Value} {l:List α} (h:Ym t R k N base w v l) (hb:Below 0 w w') (hk:∀ b,b<w.heap.size→b<N∨base≤b→w'.heap[b]?=w.heap[b]?):Ym t R k N base w' v l:=by
 obtain ⟨rs,h1,h2,h3⟩:=h;exact ⟨rs,h1,h2.keep fun g hg=>hk g (h2.own g hg).2 (.inr (h2.own g hg).1),fun i r x hr hx=>((h3 i r x hr hx).on hb (fun b hF=>hk b hF.2.2 hF.2.1)).wide (fun b hF=>⟨hF.1,hF.2.1,Br hF.2.2 hb.size⟩) (fun b hF=>hF.2.2)⟩
theorem Row.setRow {w:World} {g:Nat} {t:TypeId} {b:List Value} (h:Row w g t b) (cs:List Value):Row (w.setRow g cs.toArray) g t cs:=Cm w g b.toArray cs.toArray t (0,0) h
theorem Qf.ne {t u:TypeId} {k j:Nat} {w:World} {b1 b2:Nat} {v x:Value} {rs qs:List (List Value)} (h:Qf t k w b1 v rs) (h':Qf u j w b2 x qs) (htu:t≠u):∀ b,v.ownBlock=some b→x.ownBlock≠some b:=by
 obtain ⟨_,_,h⟩:=h;obtain ⟨_,_,h'⟩:=h'
 grind [Value.ownBlock]
theorem Jn.make {N base m1 m2:Nat} {w:World} {s:St} {v1 v2 v3 v4 v5 v6 v7:Value} (hN:N≤base) (hm:base≤m1∧m1≤m2) (h1:QM (fun b=>(b<N∨base≤b)∧b<m1) w (fun w2=>Qt ClR 4 w2 w2.heap.size v1 s.clients))
  (h2:Jy 82 Q5 4 w m1 v2 s.conns) (h3:Jy 86 Qr 7 w m1 v3 s.chans) (h7:Jy 70 YM 3 w m1 v7 s.purses)
  (n2:∀ b,v2.ownBlock=some b→b<m2) (n3:∀ b,v3.ownBlock=some b→b<m2) (n7:∀ b,v7.ownBlock=some b→b<m2)
  (h4:QM (fun b=>(b<N∨m2≤b)∧b<w.heap.size) w (fun w2=>Qt MkR 3 w2 w2.heap.size v4 s.sent)) (h5:QM (fun b=>(b<N∨m2≤b)∧b<w.heap.size) w (fun w2=>Qt MkR 3 w2 w2.heap.size v5 s.got)) (h6:QM (fun b=>(b<N∨m2≤b)∧b<w.heap.size) w (fun w2=>Qt MkR 3 w2 w2.heap.size v6 s.acks)) :
  Jn N base w s v1 v2 v3 v4 v5 v6 v7:=by
 have t23:=Qf.ne h2 h3 (by decide)
 have t27:=Qf.ne h2 h7 (by decide)
 have t37:=Qf.ne h3 h7 (by decide)
 have W:∀ (i:Nat) (P:World→Prop),i=4∨i=5∨i=6→QM (fun b=>(b<N∨m2≤b)∧b<w.heap.size) w P→QM (fun b=>(i=1∧(b<N∨base≤b)∧b<m1)∨(i=2∧v2.ownBlock=some b)∨(i=3∧v3.ownBlock=some b)∨(i=7∧v7.ownBlock=some b)∨((i=4∨i=5∨i=6)∧(b<N∨m2≤b)∧b<w.heap.size)) w P:=fun i P hi hP =>
  hP.wide (fun b hF=>.inr (.inr (.inr (.inr ⟨hi,hF⟩)))) (fun b hF=>by grind)
 have l1:=h1.1;have o2:=h2.own;have o3:=h3.own;have o7:=h7.own;refine ⟨fun i b=>(i=1∧(b<N∨base≤b)∧b<m1)∨(i=2∧v2.ownBlock=some b)∨(i=3∧v3.ownBlock=some b)∨(i=7∧v7.ownBlock=some b)∨((i=4∨i=5∨i=6)∧(b<N∨m2≤b)∧b<w.heap.size),fun i b hF=>?_,h1.wide (fun b hF=>.inl ⟨rfl,hF⟩) (fun b hF=>?_),Qf.mono h2 hm.1,Qf.mono h3 hm.1,W 4 _ (.inl rfl) h4,W 5 _ (.inr (.inl rfl)) h5,W 6 _ (.inr (.inr rfl)) h6,Qf.mono h7 hm.1,fun b e=>⟨.inr (.inl ⟨rfl,e⟩),fun i hi hF=>?_⟩,fun b e=>⟨.inr (.inr (.inl ⟨rfl,e⟩)),fun i hi hF=>?_⟩,fun b e=>⟨.inr (.inr (.inr (.inl ⟨rfl,e⟩))),fun i hi hF=>?_⟩⟩
 all_goals clear h1 h2 h3 h4 h5 h6 h7 W;grind
theorem Jn.lower {N base base':Nat} {w:World} {s:St} {v1 v2 v3 v4 v5 v6 v7:Value} (h:Jn N base w s v1 v2 v3 v4 v5 v6 v7) (hb:base'≤base):Jn N base' w s v1 v2 v3 v4 v5 v6 v7:=by
 obtain ⟨F,h0,h1,h2,h3,h4,h5,h6,h7,k⟩:=h;exact ⟨F,fun i b hF=>(h0 i b hF).imp id (Bh hb),h1,Qf.mono h2 hb,Qf.mono h3 hb,h4,h5,h6,Qf.mono h7 hb,k⟩
def QcH (N base m:Nat) (w:World) (v:Value) (l:List Cl):Prop :=
 ∃ rs:List (List Value),rs.length=l.length∧Qf 78 4 w base v rs∧(∀ b,v.ownBlock=some b→b<m)∧∀ (i:Nat) r x,rs[i]?=some r→l[i]?=some x→QM (fun b=>some b≠v.ownBlock∧(b<N∨base≤b)∧b<m) w (fun w2=>ClR w2 w2.heap.size r x)
theorem QcH.of {N base:Nat} {w:World} {v:Value} {l:List Cl} (h:Ym 78 ClR 4 N base w v l):QcH N base w.heap.size w v l:=by
 obtain ⟨rs,h1,h2,h3⟩:=h;exact ⟨rs,h1,h2,fun b e=>(h2.own b e).2,h3⟩
theorem QcH.on {N base m:Nat} {w w':World} {v:Value} {l:List Cl} (h:QcH N base m w v l) (hb:Below 0 w w') (hk:∀ b,b<m→b<N∨base≤b→w'.heap[b]?=w.heap[b]?):QcH N base m w' v l:=by
 obtain ⟨rs,h1,h2,h3,h4⟩:=h;exact ⟨rs,h1,Qf.keep h2 fun b e=>hk b (h3 b e) (.inr (h2.own b e).1),h3,fun i r x hr hx=>(h4 i r x hr hx).on hb fun b hF=>hk b hF.2.2 hF.2.1⟩
theorem QcH.low {N base base' m:Nat} {w:World} {v:Value} {l:List Cl} (h:QcH N base m w v l) (hb:base'≤base) (hm:m≤w.heap.size):QcH N base' m w v l:=by
 obtain ⟨rs,h1,h2,h3,h4⟩:=h;exact ⟨rs,h1,h2.mono hb,h3,fun i r x hr hx=>(h4 i r x hr hx).wide (fun b hF=>⟨hF.1,hF.2.1.imp id (Bh hb),hF.2.2⟩) (fun b hF=>Br hF.2.2 hm)⟩
def QgL (N base m:Nat) (w:World) (s:St) (v2 v3 v4 v5 v6 v7:Value):Prop:=Qu (fun b=>b<N∨m≤b) base w { s with clients:=[] } noX (Bc) v2 v3 v4 v5 v6 v7
def Qey (t:TypeId) (k base:Nat) (rs:List (List Value)) (X:Value) (W:World):Prop:=Qf t k W base X rs
theorem Qey.stay (t:TypeId) (k base:Nat) (rs:List (List Value)):Yr (Qey t k base rs):=fun _ _ _ hb h=>Qf.below h hb
theorem Qey.of {f:FuncId} {b:Array Value} {t:TypeId} {k base:Nat} {rs:List (List Value)} {W:World} (hb:base≤W.heap.size) (h:Calls prog f b W fun e w'=>Bd W w'∧∃ v',e=.returned v'∧Qf t k w' W.heap.size v' rs):Calls prog f b W fun e w'=>∃ v,e=.returned v∧Bd W w'∧Qey t k base rs v w' :=
 h.mono (by rintro e w' ⟨d,v,rfl,hr⟩;exact ⟨v,rfl,d,Qf.mono hr hb⟩)
theorem QuK (s:St) (o1 o2 o3 o4 o5 o6 o7:Option Addr) (c1 c2 c3 c4 c5 c6 c7:Nat) (N M:Nat) (w:World) (hm:Zp w M s (.slice o1 s.clients.length c1) (.slice o2 s.conns.length c2) (.slice o3 s.chans.length c3) (.slice o4 s.sent.length c4) (.slice o5 s.got.length c5) (.slice o6 s.acks.length c6) (.slice o7 s.purses.length c7)) (h6:Zp w N { s with purses:=[] } (.slice o1 s.clients.length c1) (.slice o2 s.conns.length c2) (.slice o3 s.chans.length c3) (.slice o4 s.sent.length c4) (.slice o5 s.got.length c5) (.slice o6 s.acks.length c6) (Bc)) (a7:N≤M) (hM:M≤w.heap.size) (D:s.fits) (d:few s):Calls prog 32 #[.agg #[.string s.name,Bb s.height,Bb s.time,.slice o1 s.clients.length c1,.slice o2 s.conns.length c2,.slice o3 s.chans.length c3,.slice o4 s.sent.length c4,.slice o5 s.got.length c5,.slice o6 s.acks.length c6,.slice o7 s.purses.length c7]] w fun e w'=>Bd w w'∧∃ p1 d1 p2 d2 p3 d3 p4 d4 p5 d5 p6 d6 p7 d7,e=.returned (.agg #[.string s.name,Bb s.height,Bb s.time,.slice p1 s.clients.length d1,.slice p2 s.conns.length d2,.slice p3 s.chans.length d3,.slice p4 s.sent.length d4,.slice p5 s.got.length d5,.slice p6 s.acks.length d6,.slice p7 s.purses.length d7])∧Qu (fun b=>b<N∨w.heap.size≤b) w.heap.size w' s noX (.slice p1 s.clients.length d1) (.slice p2 s.conns.length d2) (.slice p3 s.chans.length d3) (.slice p4 s.sent.length d4) (.slice p5 s.got.length d5) (.slice p6 s.acks.length d6) (.slice p7 s.purses.length d7)∧∃ m,(w.heap.size≤m∧m≤w'.heap.size)∧QcH N w.heap.size m w' (.slice p1 s.clients.length d1) s.clients∧QgL N w.heap.size m w' s (.slice p2 s.conns.length d2) (.slice p3 s.chans.length d3) (.slice p4 s.sent.length d4) (.slice p5 s.got.length d5) (.slice p6 s.acks.length d6) (.slice p7 s.purses.length d7):=by
 have hN:N≤w.heap.size:=Bh a7 hM
 have aH:=hid (show few { s with purses:=[] } from ⟨d.1,d.2.1,d.2.2.1,d.2.2.2.1,d.2.2.2.2.1,d.2.2.2.2.2.1,BH _,d.2.2.2.2.2.2.2⟩)
 have aZ:=hid (show Qk6 { s with purses:=[] } from ⟨D.2.2.2.2.1.2,D.2.2.2.2.2.1.2,D.2.2.2.2.2.2.1.2⟩)
 have aV:=hid D.2.1.2;have aW:=hid d.2.2.2.2.2.2.2;obtain ⟨hl1,hl2,hl3,-,-,-,hl7,-⟩:=d;have HM:=hid (fun wx (hx:Bd w wx)=>hm.below (hx.mono hM))
 have aI:=hid (fun wx (hx:Bd w wx)=>h6.below (hx.mono hN))
 clear hm h6 D
 go_in
 go_upto_region 1 with fail
 refine QbK ?_;intro w0 F0 hs;obtain ⟨rs,L,aT,aE⟩:=(aI.out _ F0.b).clients;have aC:N≤w0.heap.size:=by omega
 have aO:∀ r∈rs,r.length=4∧∀ x∈r,x.oneCell'=true:=fun r hr=>by
  obtain ⟨i,hi⟩:=Dh hr;have hil:=(Bm.1 hi).1;obtain ⟨dv,rfl,hd⟩:=aE i r (s.clients[i]'(by simp only at L;omega)) hi (Bk _)
  obtain ⟨od,cd,rfl,-⟩:=hd.shape
  exact ⟨rfl,fun x hx=>by simp at hx;rcases hx with rfl | rfl | rfl | rfl <;> rfl⟩
 have aX:=hid (QtO rs (.slice o1 s.clients.length c1) N w0 aT aC aO (by simp only at L;omega))
 have aJ:=hid (fun w1 v1 (hb:Bd w0 w1) (hr:Qf 78 4 w1 w0.heap.size v1 rs)=>Ym.new ClR.stays L hr aE aC aC hb)
 have k3:=F0.r0.k10.2.2.2.1;have HL:=hid F0.lts;clear L aT aE aO
 go_wp2_with fail
 refine aX.out.mono ?_;rintro e w1 ⟨I,v1,rfl,Y⟩;have aF:=aJ.out _ _ I Y;obtain ⟨q1,e1,rfl,-⟩:=aF.shape;have F1:=F0.go I;have ad:=I.size;have HH:=hid aF;have ag:=F1.r0.k10.2.2.2.1;have ah:=F1.r0.frozen 3;clear k3 I Y aF F0
 go_upto_region 2 with fail
 refine F1.cell 0 rfl ?_;intro w2 F2 O2;have a5:=hid (HH.out.on O2.below (fun b _ hb=>O2.same b (by omega)))
 have hsz2:w0.heap.size≤w2.heap.size:=by have:=O2.size;omega
 clear ag ah O2 F1 HH ad;have k3:=F2.r0.k10.2.2.2.1
 go_wp2_with fail
 clear k3
 go_loopw [12] (fun i wr=>∃ k:Nat,k≤s.clients.length∧i=Bb (k:Int)∧Hid (Ym 78 ClR 4 N w0.heap.size wr (.slice q1 s.clients.length e1) s.clients∧Below w0.heap.size w2 wr)) (fun i _=>s.clients.length-(intOf i).toNat)
 case atStart=>exact ⟨0,by omega,rfl,hid ⟨a5.out,Bi _ _⟩⟩
 case round =>
  obtain ⟨k,hk,rfl,HT⟩:=hrel;have F3:=F2.past HT.out.2 (by omega) HL.out
  have hszw:=HT.out.2.size
  by_cases q:k<s.clients.length
  ·obtain ⟨x,hx⟩:∃ x,s.clients[k]?=some x:=⟨_,Bk q⟩
   have hlt':(k:Int)<(s.clients.length:Int):=by omega
   obtain ⟨g,rq,r,rfl,a9,G,aQ,aR,ab,ac,aS,hc,aN⟩:=HT.out.1.at hx;obtain ⟨dv,rfl,aD⟩:=ac;obtain ⟨ka,ma,rfl,-⟩:=aD.shape;have f0:=hc 0 _ rfl;have f1:=hc 1 _ rfl;have f2:=hc 2 _ rfl;have f3:=hc 3 _ rfl;simp only [BI] at f0;have aY:=hid (And.intro f0 (And.intro f1 (And.intro f2 f3)));have HF:=hid aN;have HV:=hid (fun W (hb:Bd wr W)=>QaE x (.agg #[.string x.chain,Bb x.trust,.bool x.frozen,.slice ka x.known.length ma]) wr.heap.size W ⟨_,rfl,aD.below hb⟩ hb.size (aV.out x (Bn hx)) (aW.out x (Bn hx)))
   have HQ:=hid (And.intro aQ (And.intro aR (And.intro aS hx)));have k3:=F3.r0.k10.2.2.2.1;clear hc aN aD aQ aR ab aS hx
   go_upto_region 5 with fail
   refine F3.box ?_;intro w3 F4 hs3 aM;have E:=hid aM;clear f0 f1 f2 f3 k3 aM;have aG:=hid F4;clear F4 F3;apply JR 6 (by kernel_rfl) (fun W hb=>And.intro (aG.out.go hb).r0.cell (aG.out.go hb).r2.cell) (by kernel_rfl)
   ·intro σ;simp [Qj];exact rfl
   iterate 4 (apply RK.val rfl;· intro σ W hb hc ⟨hd,hu⟩;simp at hd hu;go_simp;exact rfl)
   apply RK.callG (Qo8 w3.heap.size x) (Qo8.stay _ _) rfl
   ·intro σ W hb hc ⟨hd,hu⟩;simp at hd hu
    refine ⟨_,_,by go_simp <;> first | exact rfl | exact ⟨rfl,rfl⟩,(HV.out W (E.out.trans (hb.mono E.out.size))).mono ?_⟩
    rintro e w' ⟨a8,o,m,ps,rfl,h1,h2⟩;exact ⟨_,rfl,a8,o,m,ps,rfl,h1.mono hb.size,h2⟩
   iterate 1 (apply RK.val rfl;· intro σ W hb hc ⟨hd,hu⟩;simp at hd hu;go_simp;exact rfl)
   intro σ w4 A _;simp only [Jm,Bv,By,Nat.reduceAdd];intro hF;obtain ⟨-,-,-,-,⟨o,m,ps,e4,S,aP⟩,e5,-⟩:=hF;have z:Bd wr w4:=E.out.trans (A.mono E.out.size);obtain ⟨d0,d1,d2,d3⟩:=aY.out;have g0:=(z.cell (p:=⟨g,k*4,none⟩) G).trans d0;have g1:=(z.cell (p:=⟨g,k*4+1,none⟩) G).trans d1;have g2:=(z.cell (p:=⟨g,k*4+2,none⟩) G).trans d2;have g3:=(z.cell (p:=⟨g,k*4+3,none⟩) G).trans d3;have gz:=fun o=>(World.frozen?_of_block (a:=⟨g,o,none⟩) (z.block g G)).trans (HF.out o)
   simp only [BU,BS,e4,e5];clear d0 d1 d2 d3 e4 e5
   have aK:=hid (show QM (fun b=>b≠g∧(b<N∨w0.heap.size≤b)∧b<w4.heap.size) w4 (fun wz=>ClR wz wz.heap.size [.string x.chain,Bb x.trust,.bool x.frozen,.slice o ps.length m] x) from
    ⟨fun b hb=>hb.2.2,fun wz hz aa=>⟨_,rfl,by rw [← aP];exact S.held.2 wz hz fun b hF=>aa b ⟨by omega,.inr (by have:=E.out.size;omega),hF.2⟩⟩⟩)
   have T:=(HQ.out.2.1.below z).put (i:=k) (r:=[.string x.chain,Bb x.trust,.bool x.frozen,.slice o ps.length m]) (by rw [HQ.out.1];exact q) ⟨rfl,fun y hy=>by simp at hy;rcases hy with rfl | rfl | rfl | rfl <;> rfl⟩
   have a4:=hid (Ym.put (t:=78) (R:=ClR) (k:=4) (N:=N) (base:=w0.heap.size) (n:=s.clients.length) (c:=e1) HQ.out.1 (fun j r y hr hy=>((HQ.out.2.2.1 j r y hr hy).below z).wide (fun b hF=>⟨hF.1,hF.2.1,Br hF.2.2 z.size⟩) (fun b hF=>hF.2.2)) HQ.out.2.2.2 aK.out (Q3 w4 g (k*4) [.string x.chain,Bb x.trust,.bool x.frozen,.slice o ps.length m]) T)
   have a3:=hid (show Below w0.heap.size w2 (w4.setCells g (k*4) [.string x.chain,Bb x.trust,.bool x.frozen,.slice o ps.length m]) from JN a9 _ _ _ (HT.out.2.trans (z.mono (by omega))))
   clear A S aP z T aK HQ;go_wp2;go_roundw
   case rel=>exact ⟨k+1,by omega,by go_num,hid ⟨a4.out,a3.out⟩⟩
   case measure=>simp [intOf];omega
  ·have hge:decide ((k:Int)<(s.clients.length:Int))=false:=by simp;omega
   have H1:=hid HT.out.1.held;have J1:=hid (QcH.of HT.out.1)
   go_upto_region 7 with fail
   apply JR 10 (by kernel_rfl) (fun W hb=>(F3.go hb).r0.cell) (by kernel_rfl)
   ·intro σ;simp [Qj];exact rfl
   iterate 2 (apply RK.val rfl;· intro σ W hb hc ⟨hd,hu⟩;simp at hd hu;go_simp;exact rfl)
   apply RK.callG (Qey 82 4 wr.heap.size (s.conns.map Q5)) (Qey.stay _ _ _ _) rfl
   ·intro σ W hb hc ⟨hd,hu⟩;simp at hd hu
    exact ⟨_,_,by go_simp <;> first | exact rfl | exact ⟨rfl,rfl⟩,Qey.of hb.size (QtP (s.conns.map Q5) _ M W (Qei (HM.out _ (F3.go hb).b).conns) (Bh hM (F3.go hb).b.size) Qea (by rw [Bp];omega))⟩
   iterate 2 (apply RK.val rfl;· intro σ W hb hc ⟨hd,hu⟩;simp at hd hu;go_simp;exact rfl)
   apply RK.callG (Qey 86 7 wr.heap.size (s.chans.map Qr)) (Qey.stay _ _ _ _) rfl
   ·intro σ W hb hc ⟨hd,hu⟩;simp at hd hu
    exact ⟨_,_,by go_simp <;> first | exact rfl | exact ⟨rfl,rfl⟩,Qey.of hb.size (QtN (s.chans.map Qr) _ M W (Qei (HM.out _ (F3.go hb).b).chans) (Bh hM (F3.go hb).b.size) Qd8 (by rw [Bp];omega))⟩
   iterate 2 (apply RK.val rfl;· intro σ W hb hc ⟨hd,hu⟩;simp at hd hu;go_simp;exact rfl)
   apply RK.callG (Qey 70 3 wr.heap.size (s.purses.map YM)) (Qey.stay _ _ _ _) rfl
   ·intro σ W hb hc ⟨hd,hu⟩;simp at hd hu
    exact ⟨_,_,by go_simp <;> first | exact rfl | exact ⟨rfl,rfl⟩,Qey.of hb.size (Qoy (s.purses.map YM) _ M W (Qei (HM.out _ (F3.go hb).b).purses) (Bh hM (F3.go hb).b.size) QnM (by rw [Bp];omega))⟩
   iterate 1 (apply RK.val rfl;· intro σ W hb hc ⟨hd,hu⟩;simp at hd hu;go_simp;exact rfl)
   intro σ w4 A _;simp only [Jm,Bv,By,Nat.reduceAdd];intro hF;obtain ⟨-,-,h2,-,-,h3,-,-,h7,e9,-⟩:=hF;have F4:=F3.go A;have kc:=F4.r0.cell;have zc:=F4.r0.frozen;simp only [BU,BS,e9];obtain ⟨q2,e2,y2,-⟩:=Qf.shape h2;obtain ⟨q3,e3,y3,-⟩:=Qf.shape h3;obtain ⟨q7,e7,y7,-⟩:=Qf.shape h7;unfold Qey at h2 h3 h7;rw [y2] at h2;rw [y3] at h3;rw [y7] at h7;have n2:=fun b e=>h2.own b e
   have n3:=fun b e=>h3.own b e
   have n7:=fun b e=>h7.own b e
   have HR:=hid (And.intro h2 (And.intro h3 h7));have H4:=hid (H1.out.below A);have J4:=hid (J1.out.on (A.mono (BH _)) fun b q _=>A.block b q)
   have hw4:=A.size;simp only [Bp] at HR n2 n3 n7 y2 y3 y7;simp only [y2,y3,y7];clear y2 y3 y7 e9 h2 h3 h7 A
   go_upto_region 8 with fail
   refine (((F4.set1 0 4 _ rfl).set1 0 5 _ rfl).set1 0 9 _ rfl).named (((JH.refl w.heap.size w4).cell 4 _).cell 5 _ |>.cell 9 _) ?_;intro w5 F5 O5;have G1:=hid (H4.out.on O5.below (fun b hF=>O5.same b (by omega)))
   have J5:=hid (J4.out.on O5.below (fun b q hF=>O5.same b (by omega)))
   have G2:=hid (show Jy 82 Q5 4 w5 wr.heap.size (.slice q2 s.conns.length e2) s.conns from Jy.keep HR.out.1 (fun b e=>O5.same b (by have:=n2 b e;omega)))
   have G3:=hid (show Jy 86 Qr 7 w5 wr.heap.size (.slice q3 s.chans.length e3) s.chans from Jy.keep HR.out.2.1 (fun b e=>O5.same b (by have:=n3 b e;omega)))
   have G7:=hid (show Jy 70 YM 3 w5 wr.heap.size (.slice q7 s.purses.length e7) s.purses from Jy.keep HR.out.2.2 (fun b e=>O5.same b (by have:=n7 b e;omega)))
   have O:=O5.size;have a6:=hid O;clear kc zc HR H4 J4 O5 O F4
   refine Qu3 { s with purses:=[] } q1 q2 q3 q7 o4 o5 o6 e1 s.conns.length e2 s.chans.length e3 s.purses.length e7 c4 c5 c6 (.slice o1 s.clients.length c1) (.slice o2 s.conns.length c2) (.slice o3 s.chans.length c3) (Bc) (N:=N) (by have:=F5.b.size;omega) (hid F5.r0) (hid (aI.out _ F5.b)) aH.out aZ _ (hid ?_)
   intro τ p4 p5 p6 d4 d5 d6 w6 w7 C O7 aU h4;have O:=a6.out;have af:=C.size;have F7:=(F5.go C).only (i:=0) rfl aU O7;have ae:=O7.size;have I2:=Jy.keep (G2.out.below C) (fun b e=>O7.same b (by have:=n2 b e;omega))
   have I3:=Jy.keep (G3.out.below C) (fun b e=>O7.same b (by have:=n3 b e;omega))
   have I7:=Jy.keep (G7.out.below C) (fun b e=>O7.same b (by have:=n7 b e;omega))
   have aA:=fun (l:List Cl) base (h1:base≤wr.heap.size∧N≤wr.heap.size) v h=>Qu.make (s:={ s with clients:=l }) (v1:=v) (base:=base) (m1:=wr.heap.size) (m2:=w5.heap.size) ⟨h1.1,by omega,h1.2,by omega⟩ h I2 I3 I7 (Qf.ne I2 I3 (by decide)) (Qf.ne I2 I7 (by decide)) (Qf.ne I3 I7 (by decide))
     (fun b e=>by have:=n2 b e;omega) (fun b e=>by have:=n3 b e;omega) (fun b e=>by have:=n7 b e;omega) (h4.on O7.below (fun b q hF=>O7.same b (by omega)))
   have aL:=hid (aA s.clients w0.heap.size ⟨by omega,by omega⟩ _ ((G1.out.below C).on O7.below (fun b hF=>O7.same b (by omega))))
   have J7:=hid ((J5.out.on (C.mono (BH _)) fun b q _=>C.block b (by omega)).on O7.below (fun b q hF=>O7.same b (by omega)))
   have aB:=hid (show QgL N wr.heap.size wr.heap.size w7 s (.slice q2 s.conns.length e2) (.slice q3 s.chans.length e3) (.slice p4 s.sent.length d4) (.slice p5 s.got.length d5) (.slice p6 s.acks.length d6) (.slice q7 s.purses.length e7) from
    aA [] wr.heap.size ⟨Bj _,by omega⟩ _ ⟨fun b hF=>by omega,fun w2 _ _=>Qt.nil _ _ _ _⟩)
   clear aA aU J1 J5 I2 I3 I7 h4 C G1 G2 G3 G7 n2 n3 n7 O7 F5;have HZ:=hid (show w.heap.size≤wr.heap.size∧wr.heap.size≤w7.heap.size by omega)
   clear O ae af
   go_wp2_with (first | refine F7.load 0 rfl Qa ?_ | refine F7.store 1 rfl Qa (by simp) ?_;intro w8 F8 O8)
   have hs8:=O8.size;have hz:=HZ.out;exact Qfa results32 rfl F8.r1 Qa rfl ⟨F8.b,q1,e1,q2,e2,q3,e3,p4,d4,p5,d5,p6,d6,q7,e7,rfl,((aL.out.on O8.below (fun b _ (q:b<N∨w0.heap.size≤b)=>O8.same b (by omega))).lower (by omega)).wide (fun b _ h=>h.imp id (fun h=>by omega)),wr.heap.size,⟨hz.1,by omega⟩,(J7.out.on O8.below (fun b _ (q:b<N∨w0.heap.size≤b)=>O8.same b (by omega))).low (by omega) (by omega),(aB.out.on O8.below (fun b _ (q:b<N∨wr.heap.size≤b)=>O8.same b (by omega))).lower (by omega)⟩
theorem Qrp (s:St) (o1 o2 o3 o4 o5 o6 o7:Option Addr) (c1 c2 c3 c4 c5 c6 c7:Nat) (N M:Nat) (w:World) (hm:Zp w M s (.slice o1 s.clients.length c1) (.slice o2 s.conns.length c2) (.slice o3 s.chans.length c3) (.slice o4 s.sent.length c4) (.slice o5 s.got.length c5) (.slice o6 s.acks.length c6) (.slice o7 s.purses.length c7)) (h6:Zp w N { s with purses:=[] } (.slice o1 s.clients.length c1) (.slice o2 s.conns.length c2) (.slice o3 s.chans.length c3) (.slice o4 s.sent.length c4) (.slice o5 s.got.length c5) (.slice o6 s.acks.length c6) (Bc)) (m:N≤M) (hM:M≤w.heap.size) (j:s.fits) (d:few s):Calls prog 32 #[.agg #[.string s.name,Bb s.height,Bb s.time,.slice o1 s.clients.length c1,.slice o2 s.conns.length c2,.slice o3 s.chans.length c3,.slice o4 s.sent.length c4,.slice o5 s.got.length c5,.slice o6 s.acks.length c6,.slice o7 s.purses.length c7]] w fun e w'=>Bd w w'∧∃ p1 d1 p2 d2 p3 d3 p4 d4 p5 d5 p6 d6 p7 d7,e=.returned (.agg #[.string s.name,Bb s.height,Bb s.time,.slice p1 s.clients.length d1,.slice p2 s.conns.length d2,.slice p3 s.chans.length d3,.slice p4 s.sent.length d4,.slice p5 s.got.length d5,.slice p6 s.acks.length d6,.slice p7 s.purses.length d7])∧Qu (fun b=>b<N∨w.heap.size≤b) w.heap.size w' s noX (.slice p1 s.clients.length d1) (.slice p2 s.conns.length d2) (.slice p3 s.chans.length d3) (.slice p4 s.sent.length d4) (.slice p5 s.got.length d5) (.slice p6 s.acks.length d6) (.slice p7 s.purses.length d7) :=
 (QuK s o1 o2 o3 o4 o5 o6 o7 c1 c2 c3 c4 c5 c6 c7 N M w hm h6 m hM j d).mono fun _ _ ⟨hb,p1,d1,p2,d2,p3,d3,p4,d4,p5,d5,p6,d6,p7,d7,e,h,_⟩=>⟨hb,p1,d1,p2,d2,p3,d3,p4,d4,p5,d5,p6,d6,p7,d7,e,h⟩
theorem Qrr (s:St) (v:Value) (N:Nat) (w:World) (hv:StV w N v s) (hN:N≤w.heap.size) (j:s.fits) (d:few s):Calls prog 32 #[v] w fun e w'=>Bd w w'∧∃ p1 d1 p2 d2 p3 d3 p4 d4 p5 d5 p6 d6 p7 d7,e=.returned (.agg #[.string s.name,Bb s.height,Bb s.time,.slice p1 s.clients.length d1,.slice p2 s.conns.length d2,.slice p3 s.chans.length d3,.slice p4 s.sent.length d4,.slice p5 s.got.length d5,.slice p6 s.acks.length d6,.slice p7 s.purses.length d7])∧Qu (fun b=>b<N∨w.heap.size≤b) w.heap.size w' s noX (.slice p1 s.clients.length d1) (.slice p2 s.conns.length d2) (.slice p3 s.chans.length d3) (.slice p4 s.sent.length d4) (.slice p5 s.got.length d5) (.slice p6 s.acks.length d6) (.slice p7 s.purses.length d7):=by
 obtain ⟨o1,c1,o2,c2,o3,c3,o4,c4,o5,c5,o6,c6,o7,c7,rfl,hm⟩:=hv.open;exact Qrp s o1 o2 o3 o4 o5 o6 o7 c1 c2 c3 c4 c5 c6 c7 N N w hm ⟨hm.clients,hm.conns,hm.chans,hm.sent,hm.got,hm.acks,Qt.nil _ _ _ _⟩ (Bj _) hN j d
theorem Qls:Qvp 32:=by
 intro s v N w hv hN d b;refine (Qrr s v N w hv hN d b).mono ?_;rintro e w' ⟨hb,p1,d1,p2,d2,p3,d3,p4,d4,p5,d5,p6,d6,p7,d7,rfl,h⟩;exact ⟨hb,p1,d1,p2,d2,p3,d3,p4,d4,p5,d5,p6,d6,p7,d7,rfl,h.toOwn⟩
end Go.Proofs.YtnedafiokmjkkaaGreatDoor
