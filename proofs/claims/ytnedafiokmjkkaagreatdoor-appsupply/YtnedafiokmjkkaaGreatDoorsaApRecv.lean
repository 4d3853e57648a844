/- A packet is received. -/
import Derived.Test.YtnedafiokmjkkaaGreatDoorsaPkSend
namespace Go.Proofs.YtnedafiokmjkkaaGreatDoor
open Tryz
set_option maxRecDepth 1000000
set_option maxHeartbeats 8000000
open Go.RowKit
variable {B N g k n:Nat} {W w w':World} {c0 sv v v1 v2 v3 v4 v5 v6 v7:Value} {s:St} {oa:Option Addr} {ch h:Int} {p:Pk}
def Qrc (N base:Nat) (w:World) (x:Value) (O:Out):Prop:=∃ v od nd cd,x=.tuple #[v,.agg #[Bb O.err,Bb O.num,Bb O.pk.src,Bb O.pk.dst,Bb O.pk.seq,.slice od nd cd,Bb O.pk.tmo]]∧Qp N base w v O.st∧JY N base w (.agg #[Bb O.pk.src,Bb O.pk.dst,Bb O.pk.seq,.slice od nd cd,Bb O.pk.tmo]) O.pk
theorem JY.only {base:Nat} {w2:World} {t:Pk} (h:JY N base w v t) (O:JJ g w w2) (h1:N≤g) (h2:g<base):JY N base w2 v t:=by grind [JY,JJ,QM.on]
theorem JY.lower {base base':Nat} {t:Pk} (h:JY N base w v t) (hb:base'≤base):JY N base' w v t:=QM.wide h (fun _ hF=>⟨hF.1.imp id (by omega),hF.2⟩) (fun _ hF=>hF.2)
theorem JY.below {base:Nat} {w2:World} {t:Pk} (h:JY N base w v t) (hb:Bd w w2):JY N base w2 v t :=
 (QM.below h hb).wide (fun _ hF=>⟨hF.1,Bt hF.2 hb.size⟩) (fun _ hF=>hF.2)
theorem JY.past {base:Nat} {w2:World} {t:Pk} (h:JY N base w v t) (hb:Below 0 w w2) (hk:∀ b,b<w.heap.size→b<N∨base≤b→w2.heap[b]?=w.heap[b]?):JY N base w2 v t :=
 (QM.on h hb fun b hF=>hk b hF.2 hF.1).wide (fun _ hF=>⟨hF.1,Bt hF.2 hb.size⟩) (fun _ hF=>hF.2)
theorem Qp.open {base:Nat} {t:St} (h:Qp N base w v t):∃ o1 n1 c1 o2 n2 c2 o3 n3 c3 o4 n4 c4 o5 n5 c5 o6 n6 c6 o7 n7 c7,v=.agg #[.string t.name,Bb t.height,Bb t.time,.slice o1 n1 c1,.slice o2 n2 c2,.slice o3 n3 c3,.slice o4 n4 c4,.slice o5 n5 c5,.slice o6 n6 c6,.slice o7 n7 c7]:=by
 obtain ⟨o1,c1,o2,c2,o3,c3,o4,c4,o5,c5,o6,c6,o7,c7,rfl,-⟩:=h.now.open;exact ⟨o1,_,c1,o2,_,c2,o3,_,c3,o4,_,c4,o5,_,c5,o6,_,c6,o7,_,c7,rfl⟩
def StB (w:World) (N:Nat) (v:Value) (s:St):Prop:=∃ x y z v1 v2 v3 v4 v5 v6 v7,v=.agg #[x,y,z,v1,v2,v3,v4,v5,v6,v7]∧Zw w N { s with purses:=[] } v1 v2 v3 v4 v5 v6 (Bc)
theorem StB.of (h:StV w N v s):StB w N v s:=by
 obtain ⟨v1,v2,v3,v4,v5,v6,v7,rfl,hm⟩:=h;exact ⟨_,_,_,_,_,_,_,_,_,_,rfl,hm.clients,hm.conns,hm.chans,hm.sent,hm.got,hm.acks,Qt.nil _ _ _ _⟩
theorem StB.below (h:StB w N v s) (hb:Below N w w'):StB w' N v s:=by
 obtain ⟨x,y,z,v1,v2,v3,v4,v5,v6,v7,rfl,hm⟩:=h;exact ⟨_,_,_,_,_,_,_,_,_,_,rfl,hm.below hb⟩
theorem QvQ (s:St) (v:Value) (N K:Nat) (w:World) (hv:StV w K v s) (h6:StB w N v s) (q:N≤K) (hK:K≤w.heap.size) (m:s.fits) (j:few s):Calls prog 32 #[v] w fun e w'=>Bd w w'∧∃ p1 d1 p2 d2 p3 d3 p4 d4 p5 d5 p6 d6 p7 d7,e=.returned (.agg #[.string s.name,Bb s.height,Bb s.time,.slice p1 s.clients.length d1,.slice p2 s.conns.length d2,.slice p3 s.chans.length d3,.slice p4 s.sent.length d4,.slice p5 s.got.length d5,.slice p6 s.acks.length d6,.slice p7 s.purses.length d7])∧Qu (fun b=>b<N∨w.heap.size≤b) w.heap.size w' s noX (.slice p1 s.clients.length d1) (.slice p2 s.conns.length d2) (.slice p3 s.chans.length d3) (.slice p4 s.sent.length d4) (.slice p5 s.got.length d5) (.slice p6 s.acks.length d6) (.slice p7 s.purses.length d7):=by
 obtain ⟨o1,c1,o2,c2,o3,c3,o4,c4,o5,c5,o6,c6,o7,c7,rfl,hm⟩:=hv.open;obtain ⟨x,y,z,v1,v2,v3,v4,v5,v6,v7,e,h6⟩:=h6;obtain ⟨rfl,rfl,rfl,rfl,rfl,rfl,rfl,rfl,rfl,rfl⟩:=e;exact QrC s o1 o2 o3 o4 o5 o6 o7 c1 c2 c3 c4 c5 c6 c7 N K w hm h6 q hK m j
theorem Qo4 {A2 A3 A4 A5 A6 A7 A8 A9 Aa Ab Ac Ad Ae Af Ag Ah Ai Aj Ak Al Am An Ao Ap Aq Ar As At Au Av Aw Ax Ay Az AA AB AC AD AE AF AG AH AI AJ AK AL AM AN AO AP AQ AR AS AT AU AV AW AX AY AZ B0 B1 B2 B3 B4 B5 B6 B7 B8 B9 Ba:Value} {x0 x1 x2 x3 x4 x5 x6 x7 x9 p0 p3 p4:Value} {na ca:Nat} {o6:Option Addr} {dig:Bg} (D:Hid (Row w N 28 [x0,x1,x2,x3,x4,x5,x6,x7,.slice o6 k B,x9])) (C:Hid (Row w g 51 [p0,Bb ch,Bb h,p3,p4]))  (A:∀ W,Bd w W→Calls prog 130 #[.slice oa na ca] W fun e w'=>∃ od cd,e=.returned (.slice od 32 cd)∧Qq w' W.heap.size (.slice od 32 cd) dig∧Bd W w') (b:Value→World→Prop) (m:∀ v W,b v W→Row W N 28 [x0,x1,x2,x3,x4,x5,x6,x7,.slice o6 k B,x9]∧∃ o n c,v=.slice o n c)
  (z:∀ W od cd,Bd w W→Qq W w.heap.size (.slice od 32 cd) dig→Calls prog 119 #[.slice o6 k B,.agg #[Bb ch,Bb h,.slice od 32 cd]] W fun e w'=>∃ v,e=.returned v∧b v w') (Q:Exit→Act→World→Prop)
  (hQ:Hid (∀ (σ:Nat→Value) (W:World),b (σ 9) W→Q .normal ⟨#[v4,v5,.slice oa na ca,v6,.pointer (some ⟨N,0,none⟩),.pointer (some ⟨g,0,none⟩),v2,v3,v7,v1,sv,c0,A2,A3,A4,A5,A6,A7,A8,A9,Aa,Ab,Ac,Ad,Ae,Af,Ag,Ah,Ai,Aj,Ak,Al,Am,An,Ao,Ap,Aq,Ar,As,At,Au,Av,Aw,Ax,Ay,Az,AA,AB,AC,AD,AE,AF,AG,AH,AI,AJ,AK,AL,AM,AN,AO,AP,AQ,AR,AS,AT,AU,AV,AW,AX,AY,σ 0,σ 1,σ 2,σ 3,σ 4,σ 5,σ 6,σ 7,σ 8,σ 9,σ 10,AZ],[]⟩ (W.setCell ⟨N,8,none⟩ (σ 9)))) :
  Code.wp prog (.region 12 ((f94.body.bind (QaF 12)).getD #[]) true) Q ⟨#[v4,v5,.slice oa na ca,v6,.pointer (some ⟨N,0,none⟩),.pointer (some ⟨g,0,none⟩),v2,v3,v7,v1,sv,c0,A2,A3,A4,A5,A6,A7,A8,A9,Aa,Ab,Ac,Ad,Ae,Af,Ag,Ah,Ai,Aj,Ak,Al,Am,An,Ao,Ap,Aq,Ar,As,At,Au,Av,Aw,Ax,Ay,Az,AA,AB,AC,AD,AE,AF,AG,AH,AI,AJ,AK,AL,AM,AN,AO,AP,AQ,AR,AS,AT,AU,AV,AW,AX,AY,B0,B1,B2,B3,B4,B5,B6,B7,B8,B9,Ba,AZ],[]⟩ w:=by
 conv=>arg 2;arg 2;whnf
 conv=>arg 4;dsimp only
 refine Qfd 9 (by kernel_rfl) (fun σ=>#[v4,v5,.slice oa na ca,v6,.pointer (some ⟨N,0,none⟩),.pointer (some ⟨g,0,none⟩),v2,v3,v7,v1,sv,c0,A2,A3,A4,A5,A6,A7,A8,A9,Aa,Ab,Ac,Ad,Ae,Af,Ag,Ah,Ai,Aj,Ak,Al,Am,An,Ao,Ap,Aq,Ar,As,At,Au,Av,Aw,Ax,Ay,Az,AA,AB,AC,AD,AE,AF,AG,AH,AI,AJ,AK,AL,AM,AN,AO,AP,AQ,AR,AS,AT,AU,AV,AW,AX,AY,σ 0,σ 1,σ 2,σ 3,σ 4,σ 5,σ 6,σ 7,σ 8,σ 9,σ 10,AZ]) (fun i=>([B0,B1,B2,B3,B4,B5,B6,B7,B8,B9,Ba,undef]:List Value).getD i undef) rfl (.pointer (some ⟨N,8,none⟩)) (fun i X W=>match i with
  | 0=>X=.pointer (some ⟨N,8,none⟩)
  | 1=>X=.slice o6 k B
  | 2=>X=.pointer (some ⟨g,1,none⟩)
  | 3=>X=Bb ch
  | 4=>X=.pointer (some ⟨g,2,none⟩)
  | 5=>X=Bb h
  | 6=>X=.slice oa na ca
  | 7=>∃ od cd,X=.slice od 32 cd∧Qq W w.heap.size (.slice od 32 cd) dig
  | 8=>∃ od cd,X=.agg #[Bb ch,Bb h,.slice od 32 cd]∧Qq W w.heap.size (.slice od 32 cd) dig
  | _=>True) ?_ b (fun v W=>∃ W0,b v W0∧W=W0.setCell ⟨N,8,none⟩ v) (by kernel_rfl) ?_ ?_ ?_ ?_ ?_
 ·intro i X W W' HB H
  iterate 9 (obtain _ | i:=i;first | exact H | exact (by obtain ⟨od,cd,h1,h2⟩:=H;exact ⟨od,cd,h1,h2.below HB⟩))
  exact H
 ·refine ⟨?_,?_,?_,?_,?_,?_,?_,?_,?_,trivial⟩
  all_goals (intro σ W HJ j;simp at j;have HJ:=hid HJ;obtain ⟨gsk0,gsk1,gsk2,gsk3,gsk4,gsk5,gsk6,gsk7,gsk8,gsk9⟩:=(rg D HJ).k10;obtain ⟨gpk0,gpk1,gpk2,gpk3,gpk4⟩:=(rg C HJ).k5)
  iterate 7 (refine Qb rfl rfl ?_;go_simp;exact QK.mk0 _ (by first | rfl | simp [Qn, *]) HJ.out rfl)
  ·have HC:=hid (A W HJ.out)
   refine Qb rfl rfl ?_;go_simp;refine HC.out.mono ?_;rintro e w2 ⟨od,cd,rfl,ho,hb⟩;exact QK.mk _ (by first | rfl | simp [Qn, *]) hb HJ.out ⟨od,cd,rfl,Qcl ho HJ.out.size⟩
  ·obtain ⟨d3,d5,od,cd,d6,ho⟩:=j
   have HO:=hid ho;clear ho;refine Qb rfl rfl ?_;go_simp;exact QK.mk0 (.agg #[Bb ch,Bb h,.slice od 32 cd]) (by first | rfl | simp [Qn, *]) HJ.out ⟨od,cd,rfl,HO.out⟩
 ·intro σ W HJ hg
  have eL:σ 1=.slice o6 k B:=hg 1 (by decide)
  obtain ⟨od,cd,eB,ho⟩:∃ od cd,σ 8=.agg #[Bb ch,Bb h,.slice od 32 cd]∧Qq W w.heap.size (.slice od 32 cd) dig:=hg 8 (by decide)
  have HC:=hid (z W od cd HJ ho);clear hg HJ ho;refine Qb rfl rfl ?_;go_simp;refine HC.out.mono ?_;rintro e w2 ⟨v,rfl,hp⟩;exact ⟨v,by first | rfl | simp [Qn, *],hp⟩
 ·intro σ W
  refine Qb rfl rfl ?_;go_simp;exact ⟨by first | rfl | simp [Qn, *],rfl⟩
 ·intro σ W eu hp
  obtain ⟨hr,o,n,c,ev⟩:=m _ _ hp;have kc:=hr.cell 8;have kz:=hr.frozen 8;simp at kc;have HP:=hid hp;clear hp hr;refine Qb rfl rfl ?_;go_simp;rw [ev] at HP;exact ⟨undef,by first | rfl | simp [Qn, *],W,HP.out,by first | rfl | rw [ev]⟩
 ·rintro σ W ⟨W0,hp,rfl⟩ _
  exact hQ.out σ W0 hp
theorem QqB (s:St) (c:Ch) (f:Cl) (p:Pk) (v ev pv:Value) (N:Nat) (w:World) (hv:StV w N v s) (he:QdE w N ev c f) (hp:PkV w N pv p) (hN:N≤w.heap.size) (h0:Qd s=0) :
  Calls prog 164 #[v,ev,pv] w fun e w'=>e=.returned (.bool (QcG s c p))∧Bd w w':=by
 have HE:QcG s c p=if c.ordered=true then decide (p.seq≠c.recv) else (ZP s.got p.dst p.seq).isSome:=rfl
 have hR:=QB h0;have hlen:=hR.many.2.2.2.1;have q:=hid hR.got.2;obtain ⟨o1,c1,o2,c2,o3,c3,o4,c4,o5,c5,o6,c6,o7,c7,rfl,hm⟩:=hv.open;obtain ⟨ka,ma,rfl,hfv⟩:=he;obtain ⟨od,cd,rfl,hd⟩:=hp.open;have j:=fun W (hx:Bd w W)=>Qdz s.got p.dst p.seq _ N W (Bh hN hx.size) (hm.below (hx.mono hN)).got q.out (by omega)
 go_in
 go_upto_region 1 with fail
 refine JR ?_;intro w0 F hs;have k1:=F.r1.k11.2.1;have k5:=F.r1.k11.2.2.2.2.2.1;obtain ⟨m0,m1,m2,m3,m4⟩:=F.r2.k5;have k7:=F.r0.k10.2.2.2.2.2.2.2.1
 cases ho:c.ordered with
 | true =>
  rw [ho] at k1;have HL:=hid (HE.trans (if_pos ho));have e1:decide (p.seq≠c.recv)=(p.seq != c.recv):=by rw [Df];simp
  have m:=HL.out.trans e1;go_wp2;go_ret;exact ⟨by rw [m];rfl,F.b⟩
 | false =>
  rw [ho] at k1;have HL:=hid (HE.trans (if_neg (by simp [ho])))
  go_wp2_with fail
  refine (j w0 F.b).mono ?_;rintro e w1 ⟨rfl,z⟩;have F1:=F.go z;generalize (ZP s.got p.dst p.seq).isSome=bb at *;go_wp2;go_ret;exact ⟨by rw [HL.out];rfl,F1.b⟩
theorem QsO (s:St) (p:Pk) (v pv:Value) (oa:Option Addr) (na ca:Nat) (N:Nat) (w:World) (hv:StV w N v s) (hp:PkV w N pv p) (hN:N≤w.heap.size) (A:s.fits) :
  Calls prog 128 #[v,pv,.slice oa na ca] w fun e w'=>Bd w w'∧∃ ev,e=.returned (.tuple #[ev,Bb (YV s p na)])∧QeA w' N ev s p.dst (YV s p na):=by
 have HE:=hid (show YV s p na=if Qz p≠0 then Qz p else if Jb s p.dst [3]≠0 then Jb s p.dst [3] else if (Qv s p.dst).ochan≠p.src then 8 else if p.tmo≤s.height then 11
  else if QcG s (Qv s p.dst) p=true then 12 else if (50≤s.got.length∨50≤s.acks.length)∨150<na∨1000000000000≤(Qv s p.dst).recv then 5 else 0 from rfl)
 have j:=hid (show ∀ (w:World),YV s p na≠0→QeA w N (.agg #[Bb 0,.bool false,Bb 0,Bb 0,Bb 0,Bb 0,Bb 0,.string ⟨#[]⟩,Bb 0,.bool false,Bc]) s p.dst (YV s p na) from fun w hz=>⟨fun h=>absurd h hz,fun _=>rfl⟩)
 have aD:=hid (fun W (hx:Bd w W)=>Qes p pv N W (hp.below (hx.mono hN)))
 have T:=hid (fun W gl (hx:Bd w W) (hr:Row W gl 3 [Bb 3])=>QhS s v N W p.dst [3] gl 1 (hv.below (hx.mono hN)) (Bh hN hx.size) A hr rfl (by decide))
 have aC:=hid (fun W ev (c:Ch) (f:Cl) (hx:Bd w W) (he:QdE W N ev c f) (h0:Qd s=0)=>QqB s c f p v ev pv N W (hv.below (hx.mono hN)) he (hp.below (hx.mono hN)) (Bh hN hx.size) h0)
 obtain ⟨o1,c1,o2,c2,o3,c3,o4,c4,o5,c5,o6,c6,o7,c7,rfl,hm⟩:=hv.open;obtain ⟨odd,cdd,rfl,hd⟩:=hp.open;clear hv hm hp hd A
 go_in
 go_upto_region 1 with fail
 refine JR ?_;intro w0 F0 aL
 go_wp2_with (refine F0.load 1 rfl Qh ?_)
 refine (aD.out w0 F0.b).mono ?_;rintro e w1 ⟨rfl,aE⟩;have F1:=F0.go aE;clear aE F0 aL aD
 by_cases hz:Qz p=0
 ·have D:=hid (HE.out.trans (if_neg (by simp [hz])))
  rw [hz];clear hz HE;have m1:=F1.r1.k5.2.1
  go_wp2_with (refine F1.load 0 rfl Qa ?_)
  refine Qb4 ?_;intro w2 aI M;refine (T.out w2 _ (F1.go M).b aI).mono ?_;rintro e w3 ⟨aF,ev,rfl,S⟩;have F3:=(F1.go M).go aF;obtain ⟨y0,y1,y2,y3,y4,y5,y6,y7,y8,y9,y10,q,C⟩:=S.cells;subst q;have Y:=hid S;have aB:=hid C;clear S C aI M aF F1 T m1
  go_upto_region 5 with (refine F3.storeNew rfl Qj aB.out ?_;intro w4 F4 aG)
  have z:=hid (Y.out.below (aG.mono (Bh hN F3.b.size)));clear Y aB aG F3
  by_cases hz:Jb s p.dst [3]=0
  ·have E:=hid (D.out.trans (if_neg (by simp [hz])))
   obtain ⟨ka,ma,q,aH⟩:=z.out.1 hz;have aK:=hid (JB hz).1;simp only [BW,BN,BL,BO] at q;obtain ⟨rfl,rfl,rfl,rfl,rfl,rfl,rfl,rfl,rfl,rfl,rfl⟩:=q;have aJ:=hid (show ∀ (w:World) (ev:Value),YV s p na=0→QdE w N ev (Qv s p.dst) (Qbp s p.dst)→QeA w N ev s p.dst (YV s p na) from fun w ev h1 h2=>⟨fun _=>h2,fun h=>absurd h1 h⟩)
   rw [hz];have L:=hid aH;clear hz aH z D;generalize Qv s p.dst=c at *;generalize Qbp s p.dst=f at *;have k3:=F4.r3.k11.2.2.2.1;have k5:=F4.r3.k11.2.2.2.2.2.1;obtain ⟨m0,m1,m2,m3,m4⟩:=F4.r1.k5;obtain ⟨s0,s1,s2,s3,s4,s5,s6,s7,s8,s9⟩:=F4.r0.k10
   by_cases h1:c.ochan=p.src
   ·have G:=hid (E.out.trans (if_neg (by simp [h1])))
    have e1:(c.ochan != p.src)=false:=by simpa using h1
    clear h1 E
    by_cases h2:p.tmo≤s.height
    ·have HL:=hid (G.out.trans (if_pos h2))
     have e2:decide (p.tmo≤s.height)=true:=by simpa using h2
     clear h2
     go_wp2_with (refine F4.store 2 rfl Qj (by simp) ?_;intro wz FZ OZ)
     exact Qk results128 rfl FZ.r2 Qj rfl ⟨FZ.b,_,by rw [HL.out];rfl,j.out _ (by rw [HL.out];decide)⟩
    have I:=hid (G.out.trans (if_neg h2));have e2:decide (p.tmo≤s.height)=false:=by simpa using h2
    clear h2 G
    go_upto_region 11 with fail
    clear k3 k5 m0 m1 m2 m3 m4 s0 s1 s2 s3 s4 s5 s6 s7 s8 s9 e1 e2
    go_wp2_with (first | refine F4.load 0 rfl Qa ?_ | refine F4.load 3 rfl Qj ?_ | refine F4.load 1 rfl Qh ?_)
    refine (aC.out w4 _ c f F4.b ⟨ka,ma,rfl,L.out⟩ aK.out).mono ?_;rintro e w5 ⟨rfl,O⟩;have F5:=F4.go O;have aA:=hid (L.out.below (O.mono (Bh hN F4.b.size)));clear O F4 L aC;have k5:=F5.r3.k11.2.2.2.2.2.1;obtain ⟨s0,s1,s2,s3,s4,s5,s6,s7,s8,s9⟩:=F5.r0.k10
    by_cases h3:QcG s c p=true
    ·have HL:=hid (I.out.trans (if_pos h3))
     rw [h3];clear h3
     go_wp2_with (refine F5.store 2 rfl Qj (by simp) ?_;intro wz FZ OZ)
     exact Qk results128 rfl FZ.r2 Qj rfl ⟨FZ.b,_,by rw [HL.out];rfl,j.out _ (by rw [HL.out];decide)⟩
    have m:=hid (I.out.trans (if_neg h3));rw [show QcG s c p=false by simpa using h3]
    clear h3 I
    by_cases h4:50≤s.got.length∨50≤s.acks.length
    ·have HL:=hid (m.out.trans (if_pos (.inl h4)))
     have e4:decide ((50:Int)≤max (s.got.length:Int) (s.acks.length:Int))=true:=by simp;omega
     clear m h4
     go_wp2_with (refine F5.store 2 rfl Qj (by simp) ?_;intro wz FZ OZ)
     exact Qk results128 rfl FZ.r2 Qj rfl ⟨FZ.b,_,by rw [HL.out];rfl,j.out _ (by rw [HL.out];decide)⟩
    have e4:decide ((50:Int)≤max (s.got.length:Int) (s.acks.length:Int))=false:=by simp;omega
    by_cases h5:150<na
    ·have HL:=hid (m.out.trans (if_pos (.inr (.inl h5))))
     have e5:decide ((150:Int)<(na:Int))=true:=by simp;omega
     clear m h4 h5
     go_wp2_with (refine F5.store 2 rfl Qj (by simp) ?_;intro wz FZ OZ)
     exact Qk results128 rfl FZ.r2 Qj rfl ⟨FZ.b,_,by rw [HL.out];rfl,j.out _ (by rw [HL.out];decide)⟩
    have e5:decide ((150:Int)<(na:Int))=false:=by simp;omega
    by_cases h6:1000000000000≤c.recv
    ·have HL:=hid (m.out.trans (if_pos (.inr (.inr h6))))
     have e6:decide ((1000000000000:Int)≤c.recv)=true:=by simpa using h6
     clear m h4 h5 h6
     go_wp2_with (refine F5.store 2 rfl Qj (by simp) ?_;intro wz FZ OZ)
     exact Qk results128 rfl FZ.r2 Qj rfl ⟨FZ.b,_,by rw [HL.out];rfl,j.out _ (by rw [HL.out];decide)⟩
    have e6:decide ((1000000000000:Int)≤c.recv)=false:=by simpa using h6
    have HL:=hid (m.out.trans (if_neg (by omega)))
    clear m h4 h5 h6
    go_upto_region 15 with fail
    clear s0 s1 s2 s3 s4 s5 s6 s7 s8 s9 k5
    go_wp2_with (first | refine F5.load 3 rfl Qj ?_ | (refine F5.store 2 rfl Qj (by simp) ?_;intro wz FZ OZ))
    exact Qk results128 rfl FZ.r2 Qj rfl ⟨FZ.b,_,by rw [HL.out];rfl,aJ.out _ _ HL.out ⟨ka,ma,rfl,aA.out.below (OZ.down (Bi N _) (by omega))⟩⟩
   ·have HL:=hid (E.out.trans (if_pos h1))
    have e1:(c.ochan != p.src)=true:=by simpa using h1
    clear h1
    go_wp2_with (refine F4.store 2 rfl Qj (by simp) ?_;intro wz FZ OZ)
    exact Qk results128 rfl FZ.r2 Qj rfl ⟨FZ.b,_,by rw [HL.out];rfl,j.out _ (by rw [HL.out];decide)⟩
  ·have HL:=hid (D.out.trans (if_pos hz))
   have e0:(Jb s p.dst [3] != 0)=true:=by simpa using hz
   have HZ:=hid hz;clear hz
   go_wp2_with (refine F4.store 2 rfl Qj (by simp) ?_;intro wz FZ OZ)
   exact Qk results128 rfl FZ.r2 Qj rfl ⟨FZ.b,_,by rw [HL.out];rfl,j.out _ (by rw [HL.out];exact HZ.out)⟩
 ·have HL:=hid (HE.out.trans (if_pos hz))
  have e0:(Qz p != 0)=true:=by simpa using hz
  have HZ:=hid hz;clear hz
  go_wp2_with (refine F1.store 2 rfl Qj (by simp) ?_;intro wz FZ OZ)
  exact Qk results128 rfl FZ.r2 Qj rfl ⟨FZ.b,_,by rw [HL.out];rfl,j.out _ (by rw [HL.out];exact HZ.out)⟩
theorem QmK (a b:Int) (ha:0≤a∧a≤1000000000000) (hb:0≤b∧b≤1000000000000) (w:World) (m:QL w):Calls prog 129 #[Bb a,Bb b] w fun e w'=>∃ v,e=.returned v∧Jd w' w.heap.size v (Jt QhC [a.toNat,b.toNat])∧Bd w w':=by
 obtain ⟨w0,j⟩:∃ w0,w.alloc (.cells #[Bb a,Bb b] 3)=w0:=⟨_,rfl⟩;have z:=bof j;have q:=hid z;have HK:=hid (QaT ⟨#[115,101,110,116]⟩ [a,b] w.heap.size 2 w0 (by decide) (by rw [← j];exact Row.new _ _ _) rfl (by decide) (fun n hn=>by simp at hn;omega) (m.below z))
 have A:=hid j;clear z j m
 go_in
 go_wp2_with fail
 rw [A.out];refine HK.out.mono ?_;rintro e w1 ⟨v,rfl,ho,hb⟩;have HO:=hid ho;have HB:=hid hb;clear ho hb;go_wp2;go_ret;exact ⟨v,rfl,HO.out.mono q.out.size,q.out.trans (HB.out.mono q.out.size)⟩
theorem QnI (a b:Int) (ha:0≤a∧a≤1000000000000) (hb:0≤b∧b≤1000000000000) (w:World) (m:QL w):Calls prog 171 #[Bb a,Bb b] w fun e w'=>∃ v,e=.returned v∧Jd w' w.heap.size v (Jt QhB [a.toNat,b.toNat])∧Bd w w':=by
 obtain ⟨w0,j⟩:∃ w0,w.alloc (.cells #[Bb a,Bb b] 3)=w0:=⟨_,rfl⟩;have z:=bof j;have q:=hid z;have HK:=hid (QaT ⟨#[103,111,116]⟩ [a,b] w.heap.size 2 w0 (by decide) (by rw [← j];exact Row.new _ _ _) rfl (by decide) (fun n hn=>by simp at hn;omega) (m.below z))
 have A:=hid j;clear z j m
 go_in
 go_wp2_with fail
 rw [A.out];refine HK.out.mono ?_;rintro e w1 ⟨v,rfl,ho,hb⟩;have HO:=hid ho;have HB:=hid hb;clear ho hb;go_wp2;go_ret;exact ⟨v,rfl,HO.out.mono q.out.size,q.out.trans (HB.out.mono q.out.size)⟩
theorem Qm9 (a b:Int) (ha:0≤a∧a≤1000000000000) (hb:0≤b∧b≤1000000000000) (w:World) (m:QL w):Calls prog 168 #[Bb a,Bb b] w fun e w'=>∃ v,e=.returned v∧Jd w' w.heap.size v (Jt QhA [a.toNat,b.toNat])∧Bd w w':=by
 obtain ⟨w0,j⟩:∃ w0,w.alloc (.cells #[Bb a,Bb b] 3)=w0:=⟨_,rfl⟩;have z:=bof j;have q:=hid z;have HK:=hid (QaT ⟨#[97,99,107]⟩ [a,b] w.heap.size 2 w0 (by decide) (by rw [← j];exact Row.new _ _ _) rfl (by decide) (fun n hn=>by simp at hn;omega) (m.below z))
 have A:=hid j;clear z j m
 go_in
 go_wp2_with fail
 rw [A.out];refine HK.out.mono ?_;rintro e w1 ⟨v,rfl,ho,hb⟩;have HO:=hid ho;have HB:=hid hb;clear ho hb;go_wp2;go_ret;exact ⟨v,rfl,HO.out.mono q.out.size,q.out.trans (HB.out.mono q.out.size)⟩
theorem Qmm (a:Int) (ha:0≤a∧a≤1000000000000) (w:World) (j:QL w):Calls prog 172 #[Bb a] w fun e w'=>∃ v,e=.returned v∧Jd w' w.heap.size v (Jt Qel [a.toNat])∧Bd w w':=by
 obtain ⟨w0,b⟩:∃ w0,w.alloc (.cells #[Bb a] 3)=w0:=⟨_,rfl⟩;have q:=bof b;have m:=hid q;have HK:=hid (QaT ⟨#[110,101,120,116]⟩ [a] w.heap.size 1 w0 (by decide) (by rw [← b];exact Row.new _ _ _) rfl (by decide) (fun n hn=>by simp at hn;omega) (j.below q))
 have z:=hid b;clear q b j
 go_in
 go_wp2_with fail
 rw [z.out];refine HK.out.mono ?_;rintro e w1 ⟨v,rfl,ho,hb⟩;have HO:=hid ho;have HB:=hid hb;clear ho hb;go_wp2;go_ret;exact ⟨v,rfl,HO.out.mono m.out.size,m.out.trans (HB.out.mono m.out.size)⟩
theorem Qmn (a:Int) (ha:0≤a∧a≤1000000000000) (w:World):Calls prog 173 #[Bb a] w fun e w'=>∃ v,e=.returned v∧Jd w' w.heap.size v (ZK [a])∧Bd w w':=by
 obtain ⟨w0,b⟩:∃ w0,w.alloc (.cells #[Bb a] 3)=w0:=⟨_,rfl⟩;have m:=bof b;have j:=hid m;have HK:=hid (Qbu [a] w.heap.size 1 w0 (by rw [← b];exact Row.new _ _ _) rfl (by decide) (fun n hn=>by simp at hn;omega))
 have q:=hid b;clear m b
 go_in
 go_wp2_with fail
 rw [q.out];refine HK.out.mono ?_;rintro e w1 ⟨v,rfl,ho,hb⟩;have HO:=hid ho;have HB:=hid hb;clear ho hb;go_wp2;go_ret;exact ⟨v,rfl,HO.out.mono j.out.size,j.out.trans (HB.out.mono j.out.size)⟩
theorem Qhy {k:Bg} {a b:Int} (hk:k.length≤4) (ha:0≤a∧a≤1000000000000) (hb:0≤b∧b≤1000000000000):(Jt k [a.toNat,b.toNat]).length≤140737488351232:=by
 have h:=Zj 12 a.toNat (by omega)
 have h':=Zj 12 b.toNat (by omega)
 simp [Jt];omega
theorem Qr6 {k:Bg} {a:Int} (hk:k.length≤4) (ha:0≤a∧a≤1000000000000):(Jt k [a.toNat]).length≤140737488351232:=by
 have h:=Zj 12 a.toNat (by omega)
 simp [Jt];omega
theorem Qqt (a:Int) (ha:0≤a∧a≤1000000000000):(ZK [a]).length≤140737488351232:=by
 have:=(QgI [a] (by simp) (fun n hn=>by simp at hn;omega)).2
 omega
theorem QrY {base:Nat} (dig:Bg) (od:Option Addr) (nd cd:Nat) (h:Qu (fun b=>b<N∨B≤b) base W s (fun w2=>Bytes w2 w2.heap.size (.slice od nd cd) dig) v1 v2 v3 v4 v5 v6 v7) (hB:B≤base) (hb:base≤W.heap.size) (hs:QaW s.got) (hl:s.got.length≤1000) (ch seq:Int) :
  Calls prog 119 #[v5,.agg #[Bb ch,Bb seq,.slice od nd cd]] W fun e w'=>∃ v',e=.returned v'∧W.grownBy w' v5.ownBlock∧Qu (fun b=>b<N∨B≤b) base w' { s with got:=QZ s.got ⟨ch,seq,dig⟩ } (fun w2=>Bytes w2 w2.heap.size (.slice od nd cd) dig) v1 v2 v3 v4 v' v6 v7:=by
 obtain ⟨rs,q,hE,m⟩:=h.putGot;refine (Qiq s.got ⟨ch,seq,dig⟩ od nd cd v5 base W rs q hE hs hl hb).mono ?_;rintro e w' ⟨hg,v',C,rfl,j,A,z⟩;exact ⟨v',rfl,hg,m w' v' C _ hg j A (fun b e=>.inr (Bh hB (Qf.own j b e).1)) z⟩
theorem Qi6 {base:Nat} (dig:Bg) (od:Option Addr) (nd cd:Nat) (h:Qu (fun b=>b<N∨B≤b) base W s (fun w2=>Bytes w2 w2.heap.size (.slice od nd cd) dig) v1 v2 v3 v4 v5 v6 v7) (hB:B≤base) (hb:base≤W.heap.size) (hs:QaW s.acks) (hl:s.acks.length≤1000) (ch seq:Int) :
  Calls prog 119 #[v6,.agg #[Bb ch,Bb seq,.slice od nd cd]] W fun e w'=>∃ v',e=.returned v'∧W.grownBy w' v6.ownBlock∧Qu (fun b=>b<N∨B≤b) base w' { s with acks:=QZ s.acks ⟨ch,seq,dig⟩ } (fun w2=>Bytes w2 w2.heap.size (.slice od nd cd) dig) v1 v2 v3 v4 v5 v' v7:=by
 obtain ⟨rs,q,hE,m⟩:=h.putAcks;refine (Qiq s.acks ⟨ch,seq,dig⟩ od nd cd v6 base W rs q hE hs hl hb).mono ?_;rintro e w' ⟨hg,v',C,rfl,j,A,z⟩;exact ⟨v',rfl,hg,m w' v' C _ hg j A (fun b e=>.inr (Bh hB (Qf.own j b e).1)) z⟩
theorem Qmz {ack:Bg} {z:Int} (h:ZV s p ack.length z≠0):Qgk s p ack z=St.none:=if_neg h
theorem Qmy (h:YV s p n=0):Qz p=0∧Jb s p.dst [3]=0∧(s.got.length<50∧s.acks.length<50)∧n≤150∧(Qv s p.dst).recv<1000000000000∧QcG s (Qv s p.dst) p=false∧(Qv s p.dst).ochan=p.src∧s.height<p.tmo:=by
 unfold YV at h
 split at h
 ·rename_i h1;exact absurd h h1
 rename_i h1
 split at h
 ·rename_i h2;exact absurd h h2
 rename_i h2
 split at h
 ·cases h
 rename_i h3
 split at h
 ·cases h
 rename_i h4
 split at h
 ·cases h
 rename_i h5
 split at h
 ·cases h
 rename_i h6;exact ⟨by simpa using h1,by simpa using h2,by omega,by omega,by omega,by simpa using h5,by simpa using h3,by omega⟩
theorem QL.past (h:QL w) (hb:Bd w w'):QL w':=h.below hb
theorem Qvn (s:St) (v pv av bK:Value) (p:Pk) (ack:Bg) (h:Sh) (N K:Nat) (w:World) (z:Int) (hv:StV w K v s) (h6:StB w N v s) (hp:PkV w K pv p) (ha:Bytes w K av ack) (hh:ShV w K bK h) (bB:N≤K) (hK:K≤w.heap.size) (M:s.fits) (bF:h.fits) (hal:ack.length≤140737488351232) (aI:Qi w) (aY:QL w) (hz:QeG s p h z) :
  Calls prog 94 #[v,pv,av,bK] w fun e w'=>Bd w w'∧∃ v',e=.returned (.tuple #[v',Bb (ZV s p ack.length z)])∧Qp N w.heap.size w' v' (Qgk s p ack z):=by
 have hN:=Bh bB hK;have HE:=hid (show ZV s p ack.length z=if YV s p ack.length≠0 then YV s p ack.length else z from rfl)
 obtain ⟨oa,ca,rfl,-⟩:=ha.shape;have aw:=hid (fun W (hx:Bd w W)=>QsO s p v pv oa ack.length ca K W (hv.below (hx.mono hK)) (hp.below (hx.mono hK)) (Bh hK hx.size) M)
 have ah:=hid (fun W (hx:Bd w W) (bX:few s)=>QvQ s v N K W (hv.below (hx.mono hK)) (h6.below (hx.mono hN)) bB (Bh hK hx.size) M bX)
 have a5:=hid (fun W (hx:Bd w W)=>aI.past hx)
 have au:=hid (fun W (hx:Bd w W)=>aY.below hx)
 have ae:=hid (fun W (hx:Bd w W)=>ha.below (hx.mono hK))
 have ai:=hid (fun W (hx:Bd w W) (hw:Qz p=0)=>QsE p pv K W (aI.past hx) (hp.below (hx.mono hK)) (Bh hK hx.size) hw)
 obtain ⟨o1,c1,o2,c2,o3,c3,o4,c4,o5,c5,o6,c6,o7,c7,rfl,hm⟩:=hv.open;obtain ⟨odd,cdd,rfl,bV⟩:=hp.open;obtain ⟨q1,e1,q2,e2,q3,e3,r1,s1,r2,s2,r3,s3,r4,s4,r5,s5,r6,s6,rfl,bI⟩:=hh.open;have ar:=hid (fun W (hx:Bd w W)=>bI.below (hx.mono hK))
 have ag:=hid M.2.1.2;have bO:=hid bF.1;have bA:=hid hz;clear hv hp hh hm bV bI M bF aI aY ha hz
 go_in
 go_upto_region 1 with fail
 refine Qan ?_;intro w0 F0 b1
 go_wp2_with (first | refine F0.load 0 rfl Qa ?_ | refine F0.load 1 rfl Qh ?_)
 refine (aw.out w0 F0.b).mono ?_;rintro e w1 ⟨a7,ev,rfl,a9⟩;have F1:=F0.go a7;have HS1:=hid (show w.heap.size+4≤w1.heap.size by have:=a7.size;omega)
 obtain ⟨y0,y1,y2,y3,y4,y5,y6,y7,y8,y9,y10,aE,aX⟩:=a9.cells;subst aE;have aj:=hid a9;have aq:=hid aX;clear a9 aX a7 F0 b1 aw
 go_upto_region 2 with (refine F1.storeNew rfl Qj aq.out ?_;intro w2 F2 bC)
 have aV:=hid (aj.out.below (bC.mono (Bh hK F1.b.size)));clear aj aq bC F1
 by_cases hz:YV s p ack.length=0
 ·have aL:=hid (HE.out.trans (if_neg (by simp [hz])))
  obtain ⟨ac,a8,hmny,hal2,b0,-⟩:=Qmy hz;obtain ⟨j,k,m,c,d,f,aG,hj,aQ,bU,hd,bW,hf,aR,bM,b2,-⟩:=Y1 a8;obtain ⟨ka,ma,aE,aa⟩:=aV.out.1 hz;rw [aQ,aR] at aE;rw [aR] at aa;rw [aQ] at b0;have ay:=hid (JB a8).1;simp only [BW,BN,BL,BO] at aE;obtain ⟨rfl,rfl,rfl,rfl,rfl,rfl,rfl,rfl,rfl,rfl,rfl⟩:=aE;rw [hz];have al:=hid aa;have HJ:=hid hj;have am:=hid aG;have af:=hid aQ;have bS:=hid (Jy bM);have bT:=hid ac;have hpo:=Y0 ac;have ad:=hid (show QU f s.time h.height (fun r=>h.prf.key=Jt QhC [p.src.toNat,p.seq.toNat]∧h.prf.val=Je p∧JZ r h.prf) z by have:=bA.out;unfold QeG at this;rw [aR] at this;exact this)
  have ak:=hid (ag.out f (Bn hf));clear hz aG hj aQ bU hd bW hf aR bM b2 aa aV HE ac a8 bA ag
  go_wp2_with (refine F2.load 1 rfl Qh ?_)
  refine (ai.out w2 F2.b bT.out).mono ?_;rintro e w3 ⟨dg,rfl,A,aN⟩;obtain ⟨od,cd,rfl,-⟩:=A.shape;rw [Qcb] at A ⊢;have F3:=F2.go aN;have aZ:=hid A.held;have aW:=hid (al.out.below (aN.mono (Bh hK F2.b.size)));have hsz3:=aN.size;have bG:=F2.lts;clear A aN ai al
  go_upto_region 5 with fail
  have an:=hid (fun W (hW:Bd w3 W)=>QmK p.src p.seq (by omega) (by omega) W (au.out W (F3.go hW).b))
  have ao:=hid (fun W kv (hW:Bd w3 W) hk=>Qbi.z Qe1 f s.time h.height (Jt QhC [p.src.toNat,p.seq.toNat]) (Je p) h.prf _ kv _ _ W.heap.size W (a5.out W (F3.go hW).b) (Bj _) ((aW.out.below (hW.mono (Bh hK F3.b.size))).mono (Bh hK (F3.go hW).b.size)) hk (aZ.out.below hW).now ((ar.out W (F3.go hW).b).mono (Bh hK (F3.go hW).b.size)) ak.out (Qhy (by decide) (by omega) (by omega)) (by rw [Qcb];decide) bO.out ad.out)
  have HF:=hid F3;clear F3;apply QJ (by kernel_rfl) (fun W hb=>And.intro (HF.out.go hb).r0.cell (And.intro (HF.out.go hb).r1.cell (And.intro (HF.out.go hb).r2.cell (HF.out.go hb).r4.cell))) (by kernel_rfl)
  ·intro σ;simp [Ql];exact rfl
  iterate 10 (apply RK.val rfl;· intro σ W hb hc ⟨hd,hu⟩;simp at hd hu;go_simp;exact rfl)
  apply RK.callG (ByB (Jt QhC [p.src.toNat,p.seq.toNat])) (ByB.stay _) rfl
  ·intro σ W hb hc ⟨hd,hu⟩;simp at hd hu;exact ⟨_,_,by go_simp,(an.out W hb).mono fun e w' ⟨v,h1,h2,h3⟩=>⟨v,h1,h3,.of h2.bytes⟩⟩
  iterate 3 (apply RK.val rfl;· intro σ W hb hc ⟨hd,hu⟩;simp at hd hu;go_simp;exact rfl)
  apply RK.callG _ (Yq.eq (Bb z)) rfl
  ·intro σ W hb hc ⟨hd,hu⟩;simp at hd hu
   have HD:=hid (ao.out W _ hb (ByB.bytes hd.2.2.2.1));exact ⟨_,_,by go_simp,HD.out.mono fun e w' ⟨h1,h2⟩=>⟨_,h1,h2,rfl⟩⟩
  iterate 1 (apply RK.val rfl;· intro σ W hb hc ⟨hd,hu⟩;simp at hd hu;go_simp;exact rfl)
  intro σ w4 aO _ hF;simp [JE] at hF;go_simp;clear hF;have F4:=HF.out.go aO;have aT:=hid (aZ.out.below aO);have hsz4:=aO.size;clear aO HF an ao aZ aW ad ak au ar
  by_cases hz:z=0
  ·have aM:=hid (aL.out.trans hz)
   rw [hz];clear hz aL
   go_wp2_with (refine F4.load 0 rfl Qa ?_)
   refine (ah.out w4 F4.b (QE ay.out)).mono ?_;rintro e w5 ⟨aP,p1,d1,p2,d2,p3,d3,p4,d4,p5,d5,p6,d6,p7,d7,rfl,A⟩;have F5:=F4.go aP;have hg3:=F2.r3.lt;have hsz5:=aP.size;have ap:=hid (A.wide (Z':=fun b=>b<N∨w2.heap.size≤b) (fun b _ hb=>hb.imp id (fun h=>by omega)))
   have aU:=hid (aT.out.below aP);clear A aP ah aT
   go_upto_region 9 with (refine F5.store 0 rfl Qa (by simp) ?_;intro w6 F6 O6)
   have I:=hid (ap.out.only O6 (by omega))
   have Y:=hid (show QM (fun b=>w2.heap.size≤b∧b<w3.heap.size) w6 _ from aU.out.on O6.below fun b hF=>O6.same b (by have:=hF.1;omega))
   have hsz6:=O6.size;clear O6 F5 ap aU F4;have D:=QB ay.out;have bQ:=hid D.got.2;have ax:=hid D.acks.2;clear D;have O:∀ g∈[w.heap.size,w.heap.size+1,w.heap.size+1+1,w.heap.size+1+1+1,w1.heap.size],g<w4.heap.size:=fun g hg=>Bt (bG g hg) (by omega)
   have ko:=F6.r4.k11.2.1;have k5:=F6.r0.k10.2.2.2.2.2.1;have k7:=F6.r0.k10.2.2.2.2.2.2.2.1;have z7:=F6.r0.frozen 7;obtain ⟨m0,m1,m2,m3,m4⟩:=F6.r1.k5
   cases ho:c.ordered with
   | true =>
    rw [ho] at ko;have a4:=hid ho;clear ho;obtain ⟨g,bZ,bY,hgl,bD,bE⟩:=Qf.at I.out.chans (r:=Qr c) (i:=j) (by rw [Bs,HJ.out];rfl)
    subst bZ;have f5:=bD 5 _ rfl;have z5:=bE (j*7+5);have aG:=am.out;rw [aG] at m1;have hlt:(j:Int)<(s.chans.length:Int):=by have:=(Bm.1 HJ.out).1;omega
    have b3:IntKind.i64.wrap (c.recv+1)=c.recv+1:=by have:=bS.out;rw [Cd];omega
    have aH:=Qf.putCell I.out.chans (i:=j) (j:=5) (x:=Bb (c.recv+1)) (r:=Qr c) (by rw [Bs,HJ.out];rfl) (by decide) rfl
    have hput':JA 86 Qr 7 (w6.setCell ⟨g,j*7+5,none⟩ (Bb (c.recv+1))) w4.heap.size (.slice (some ⟨g,0,none⟩) s.chans.length d3) (s.chans.set j c.recv1):=by
     have e:(s.chans.map Qr).set j ((Qr c).set 5 (Bb (c.recv+1)))=(s.chans.set j c.recv1).map Qr:=by rw [Dc];rfl
     rw [e] at aH;exact aH
    have S:w6.grownBy (w6.setCell ⟨g,j*7+5,none⟩ (Bb (c.recv+1))) (some g):=Q3 w6 g (j*7+5) [Bb (c.recv+1)];have aA:=hid (I.out.putChans S hput' (fun b e=>.inl e) (fun b e=>.inr (by have:=(Qf.own hput' b e).1;omega)))
    have bH:∀ q∈[w.heap.size,w.heap.size+1,w.heap.size+1+1,w.heap.size+1+1+1,w1.heap.size],q<g:=fun q hq=>Bt (O q hq) bY
    have F7:=F6.past (w2:=w6.setCell ⟨g,j*7+5,none⟩ (Bb (c.recv+1))) ((Bi g _).setCell (Bj g) _) (by have:=bH _ (.head _);omega) bH
    obtain ⟨w7,aS⟩:∃ w7,w6.setCell ⟨g,j*7+5,none⟩ (Bb (c.recv+1))=w7:=⟨_,rfl⟩;have bJ:w7.heap.size=w6.heap.size:=by rw [← aS];simp [World.setCell]
    rw [aS] at aA F7;have bR:=hid aS;clear aS aH hput' bD bE I Y S aG
    go_upto_region 12 with fail
    refine Qaj bR.out ?_;clear f5 z5 k5 k7 z7 m0 m1 m2 m3 m4 F6 b3 ko
    have bN:=hid (show ({ s with chans:=s.chans.set j c.recv1 }:St)=QbX s p.dst c.recv1 by unfold QbX;rw [am.out];rfl)
    have aB:=hid (aA.out.add (X:=noX) (fun _=>False) ⟨fun _ h=>h.elim,fun _ _ _=>trivial⟩ (fun _ h=>h.elim) (fun _ h=>h.elim))
    go_upto_region 12 with fail
    refine Qo4 (hid F7.r0) (hid F7.r1) (dig:=sha ack) (fun W hW=>?sum)
     (fun v W=>Fr w F7.list W∧Qu (fun b=>b<N∨w2.heap.size≤b) w4.heap.size W { ({ s with chans:=s.chans.set j c.recv1 }:St) with acks:=QZ s.acks ⟨p.dst,p.seq,sha ack⟩ } noX (.slice p1 s.clients.length d1) (.slice p2 s.conns.length d2) (.slice (some ⟨g,0,none⟩) s.chans.length d3) (.slice p4 s.sent.length d4) (.slice p5 s.got.length d5) v (.slice p7 s.purses.length d7)∧∃ o n c,v=.slice o n c)
     ?post (fun W aK aD hW ho=>?wth) _ (hid ?_)
    case post=>exact fun v W h=>⟨h.1.r0,h.2.2⟩
    case sum =>
     refine (QgL ack _ K W (Bh hK (F7.go hW).b.size) (ae.out W (F7.go hW).b) (a5.out W (F7.go hW).b) (by omega)).mono ?_
     rintro e w' ⟨x,rfl,ho,hb⟩;obtain ⟨ox,cx,rfl,-⟩:=ho.shape;rw [QR] at ho ⊢;exact ⟨ox,cx,rfl,ho,hb⟩
    case wth =>
     have C:=aB.out.own;have hX:=(aB.out.below hW).add (X:=fun w2=>Bytes w2 w2.heap.size (.slice aK 32 aD) (sha ack)) (fun b=>w7.heap.size≤b∧b<W.heap.size) ho.held (fun b hF=>.inr (by have:=hF.1;omega)) (fun b hF i e=>by have:=(C i b e).2;have:=hF.1;omega)
     refine (Qi6 (sha ack) aK 32 aD hX (by omega) (by have:=hW.size;omega) ax.out (show s.acks.length≤1000 by omega) p.dst p.seq).mono ?_
     rintro e w' ⟨v',rfl,hg,A⟩;refine ⟨v',rfl,(F7.go hW).grown hg fun b e=>⟨?_,fun g aF=>?_⟩,(A.add (X:=noX) (fun _=>False) ⟨fun _ h=>h.elim,fun _ _ _=>trivial⟩ (fun _ h=>h.elim) (fun _ h=>h.elim)),?_⟩
     ·have:=(C 6 b e).1;omega
     ·have:=O g aF
      have:=(C 6 b e).1;omega
     ·obtain ⟨o,cp,h,-⟩:=A.mem.acks.shape
      exact ⟨_,_,_,h⟩
    intro σ W9 ⟨FW,A,o,n,cc,aJ⟩
    dsimp only [FrB.list] at FW
    have G:=FW.set1 0 8 (σ 9) rfl;have aC:=(JJ.refl w.heap.size W9).cell 8 (σ 9);have E:=hid (A.only aC (by omega))
    rw [aJ] at G E ⊢;clear aC A FW aJ;generalize W9.setCell ⟨w.heap.size,8,none⟩ (.slice o n cc)=b4 at *
    go_wp2_with (first | refine G.load 0 rfl Qa ?_ | (refine G.store 3 rfl Qa (by simp) ?_;intro b5 T a6))
    refine Qk results94 rfl T.r3 Qa rfl ⟨T.b,_,by rw [aM.out];rfl,?_⟩
    have S:Qgk s p ack z={ ({ s with chans:=s.chans.set j c.recv1 }:St) with acks:=QZ s.acks ⟨p.dst,p.seq,sha ack⟩ }:=by
     unfold Qgk;rw [if_pos aM.out];unfold QbQ;rw [af.out,if_pos a4.out,← bN.out]
     first | done | rfl
    rw [S];exact (E.out.only a6 (by omega)).holds (fun b hb=>hb.imp id (fun h=>by omega))
   | false =>
    rw [ho] at ko;have a4:=hid ho;clear ho;have C:=I.out.own;have az:=hid (I.out.add (X:=fun w2=>Bytes w2 w2.heap.size (.slice od 32 cd) (Je p)) (fun b=>w2.heap.size≤b∧b<w3.heap.size) Y.out (fun b hF=>.inr hF.1) (fun b hF i e=>by have:=(C i b e).1;have:=hF.2;omega))
    go_wp2_with fail
    refine (QrY (Je p) od 32 cd az.out (by omega) (by omega) bQ.out (by omega) p.dst p.seq).mono ?_
    rintro e w7 ⟨v5,rfl,ab,L⟩;obtain ⟨og,cg,bL,-⟩:=L.mem.got.shape
    generalize (({ s with got:=QZ s.got ⟨p.dst,p.seq,Je p⟩ }:St).got).length=ngot at bL
    subst bL;have F7:=F6.grown ab fun b e=>⟨by have:=(C 5 b e).1;omega,fun g aF=>by have:=O g aF;have:=(C 5 b e).1;omega⟩
    have aA:=hid L;have bJ:=ab.size;clear ab L az I Y k5 k7 z7 m0 m1 m2 m3 m4 F6 ko C;have k7:=F7.r0.k10.2.2.2.2.2.2.2.1;have z7:=F7.r0.frozen 7
    go_upto_region 12 with fail
    refine F7.cell 0 rfl ?_;intro w8 F8 O8;have bP:=hid (aA.out.only O8 (by omega))
    have hsz8:=O8.size;clear k7 z7 O8 F7 aA;have aB:=hid (bP.out.add (X:=noX) (fun _=>False) ⟨fun _ h=>h.elim,fun _ _ _=>trivial⟩ (fun _ h=>h.elim) (fun _ h=>h.elim))
    refine Qo4 (hid F8.r0) (hid F8.r1) (dig:=sha ack) (fun W hW=>?sum)
     (fun v W=>Fr w F8.list W∧Qu (fun b=>b<N∨w2.heap.size≤b) w4.heap.size W { ({ s with got:=QZ s.got ⟨p.dst,p.seq,Je p⟩ }:St) with acks:=QZ s.acks ⟨p.dst,p.seq,sha ack⟩ } noX (.slice p1 s.clients.length d1) (.slice p2 s.conns.length d2) (.slice p3 s.chans.length d3) (.slice p4 s.sent.length d4) (.slice og ngot cg) v (.slice p7 s.purses.length d7)∧∃ o n c,v=.slice o n c)
     ?post (fun W aK aD hW ho=>?wth) _ (hid ?_)
    case post=>exact fun v W h=>⟨h.1.r0,h.2.2⟩
    case sum =>
     refine (QgL ack _ K W (Bh hK (F8.go hW).b.size) (ae.out W (F8.go hW).b) (a5.out W (F8.go hW).b) (by omega)).mono ?_
     rintro e w' ⟨x,rfl,ho,hb⟩;obtain ⟨ox,cx,rfl,-⟩:=ho.shape;rw [QR] at ho ⊢;exact ⟨ox,cx,rfl,ho,hb⟩
    case wth =>
     have C:=aB.out.own;have hX:=(aB.out.below hW).add (X:=fun w2=>Bytes w2 w2.heap.size (.slice aK 32 aD) (sha ack)) (fun b=>w8.heap.size≤b∧b<W.heap.size) ho.held (fun b hF=>.inr (by have:=hF.1;omega)) (fun b hF i e=>by have:=(C i b e).2;have:=hF.1;omega)
     refine (Qi6 (sha ack) aK 32 aD hX (by omega) (by have:=hW.size;omega) ax.out (show s.acks.length≤1000 by omega) p.dst p.seq).mono ?_
     rintro e w' ⟨v',rfl,hg,A⟩;refine ⟨v',rfl,(F8.go hW).grown hg fun b e=>⟨?_,fun g aF=>?_⟩,(A.add (X:=noX) (fun _=>False) ⟨fun _ h=>h.elim,fun _ _ _=>trivial⟩ (fun _ h=>h.elim) (fun _ h=>h.elim)),?_⟩
     ·have:=(C 6 b e).1;omega
     ·have:=O g aF
      have:=(C 6 b e).1;omega
     ·obtain ⟨o,cp,h,-⟩:=A.mem.acks.shape
      exact ⟨_,_,_,h⟩
    intro σ W9 ⟨FW,A,o,n,cc,aJ⟩
    dsimp only [FrB.list] at FW
    have G:=FW.set1 0 8 (σ 9) rfl;have aC:=(JJ.refl w.heap.size W9).cell 8 (σ 9);have E:=hid (A.only aC (by omega))
    rw [aJ] at G E ⊢;clear aC A FW aJ;generalize W9.setCell ⟨w.heap.size,8,none⟩ (.slice o n cc)=b4 at *
    go_wp2_with (first | refine G.load 0 rfl Qa ?_ | (refine G.store 3 rfl Qa (by simp) ?_;intro b5 T a6))
    refine Qk results94 rfl T.r3 Qa rfl ⟨T.b,_,by rw [aM.out];rfl,?_⟩
    have S:Qgk s p ack z={ ({ s with got:=QZ s.got ⟨p.dst,p.seq,Je p⟩ }:St) with acks:=QZ s.acks ⟨p.dst,p.seq,sha ack⟩ }:=by
     unfold Qgk;rw [if_pos aM.out];unfold QbQ;rw [af.out,if_neg (by simp [a4.out])]
     first | done | rfl
    rw [S];exact (E.out.only a6 (by omega)).holds (fun b hb=>hb.imp id (fun h=>by omega))
  ·have HL:=hid aL.out
   have a3:=hid (show ZV s p ack.length z≠0 by rw [aL.out];exact hz)
   have e0:(z != 0)=true:=by simpa using hz
   clear hz
   go_wp2_with (refine F4.store 3 rfl Qa (by simp) ?_;intro wz FZ OZ)
   refine Qk results94 rfl FZ.r3 Qa rfl ⟨FZ.b,_,by rw [HL.out];rfl,?_⟩
   rw [Qmz a3.out];exact Qg _ _ _
 ·have HL:=hid (HE.out.trans (if_pos hz))
  have a3:=hid (show ZV s p ack.length z≠0 by rw [HL.out];exact hz)
  have e0:(YV s p ack.length != 0)=true:=by simpa using hz
  clear hz
  go_wp2_with (refine F2.store 3 rfl Qa (by simp) ?_;intro wz FZ OZ)
  refine Qk results94 rfl FZ.r3 Qa rfl ⟨FZ.b,_,by rw [HL.out];rfl,?_⟩
  rw [Qmz a3.out];exact Qg _ _ _
theorem QpA (s:St) (p:Pk):(Qji s.purses p=0)=(QbL s p=true):=by
 unfold Qji QbL
 by_cases h:Jg p.data=0
 ·cases hs:ZW (QQ p.data).reader <;> simp [h]
 ·simp [h]
theorem QlB {l:List Pu} {other:Int} {t:Tr} (hr:QT l) (hl:l.length≤60) (ht:t.amount<18446744073709551616) (h:ZZ l ch other t=0):QT (Qa0 l ch other t)∧(Qa0 l ch other t).length≤60:=by
 unfold ZZ at h;unfold Qa0
 split at h
 ·rename_i hc
  rw [if_pos hc];exact ⟨(Zq hr hl ht h).right,(Zq hr hl ht h).len⟩
 ·rename_i hc
  rw [if_neg hc];exact ⟨(Qck hr hl ht h).1.right,(Qck hr hl ht h).1.len⟩
theorem StB.purses {x z:Value} {l:List Pu} (h:StB w N (.agg #[x,v,z,v1,v2,v3,v4,v5,v6,v7]) s):StB w N (.agg #[x,v,z,v1,v2,v3,v4,v5,v6,sv]) { s with purses:=l }:=by
 obtain ⟨x,v,z,v1,v2,v3,v4,v5,v6,v7,e,hm⟩:=h;simp only [BW,BN,BL,BO] at e;obtain ⟨rfl,rfl,rfl,rfl,rfl,rfl,rfl,rfl,rfl,rfl⟩:=e;exact ⟨_,_,_,_,_,_,_,_,_,_,rfl,hm⟩
theorem QqL (s:St) (m:Ms) (o:Nat→Option Addr) (c:Nat→Nat) (v:Value) (N:Nat) (w:World) (z:Int) (hv:StV w N v s) (hm:MsM w N m o c) (hN:N≤w.heap.size) (D:s.fits) (aD:m.fits) (hi:(-9223372036854775808≤m.pk.dst∧m.pk.dst≤9223372036854775807)∧-9223372036854775808≤m.pk.src∧m.pk.src≤9223372036854775807) (O:Qi w) (E:QL w) (hw:Qd s=0) (hz:QeG s m.pk m.sh z) :
  Calls prog 62 #[v,.agg (msC m o c).toArray] w fun e w'=>Bd w w'∧∃ v',e=.returned (.tuple #[v',Bb (Qn2 s m.pk z)])∧Qp N w.heap.size w' v' (QsN s m.pk z):=by
 have hU:=Q9 hw D;have aG:=fun W (hb:Bd w W) sv (hl:Qt PuR 3 W N sv s.purses)=>Qry s.purses m.pk sv _ N W (Bh hN hb.size) hl (hm.pk.below (hb.mono hN)) hU aD.2.2.2.2.2.2.1 hi (E.below hb)
 have I:=hid (fun (t:St) (x:BitVec 8) (tv:Value) W g (hb:Bd w W) (ht:StV W W.heap.size tv t) (h6:StB W N tv t) (aS:t.fits) (hr:Row W g 5 [.int .u8 (b8 x)]) (hz:QeG t m.pk m.sh z)=>Qvn t tv _ (.slice (some ⟨g,0,none⟩) 1 1) _ m.pk [x] m.sh N W.heap.size W z ht h6 ((hm.pk.below (hb.mono hN)).mono (Bh hN hb.size)) (.inr (.inr ⟨g,0,1,rfl,Bj _,fun i hi=>⟨hr.lt,by
  have:i=0:=by simp at hi;omega
  subst this
  exact hr.cell 0⟩⟩)) ((hm.sh.below (hb.mono hN)).mono (Bh hN hb.size)) (Bh hN hb.size) (Bj _) aS aD.2.2.2.2.1 (by simp) (O.past hb) (E.below hb) hz)
 have aC:=fun h=>QlB (ch:=m.pk.dst) (other:=m.pk.src) (t:=QQ m.pk.data) hU.2 hU.1 (Ys m.pk.data).1 h
 have G:=QpA s m.pk
 have aA:=hid (fun (h:QbL s m.pk=true)=>show ZZ s.purses m.pk.dst m.pk.src (QQ m.pk.data)=0 by
  unfold QbL at h;simp at h
  exact h.2.2)
 have HE:=hid (show Qn2 s m.pk z=ZV (YS s m.pk) m.pk 1 z from rfl);have aK:=hid (show QsN s m.pk z=Qgk (YS s m.pk) m.pk (QiB s m.pk) z from rfl)
 have HQ:YS s m.pk=if QbL s m.pk=true then { s with purses:=Qa0 s.purses m.pk.dst m.pk.src (QQ m.pk.data) } else s:=rfl
 have HA:QiB s m.pk=if QbL s m.pk=true then [49] else [48]:=rfl
 have HV:=fun W (hb:Bd w W)=>hv.below (hb.mono hN)
 have aI:=hid D;have HZ:=hid hz;obtain ⟨o1,c1,o2,c2,o3,c3,o4,c4,o5,c5,o6,c6,o7,c7,rfl,M⟩:=hv.open;have aJ:=fun W (hb:Bd w W)=>(M.below (hb.mono hN)).purses
 clear hv hm M D aD O E hz hw hU hi;generalize aR:s.purses.length=n7 at *;generalize s.clients.length=n1,s.conns.length=n2,s.chans.length=n3,s.sent.length=n4,s.got.length=n5,s.acks.length=n6 at *;clear aR
 go_in
 go_upto_region 1 with fail
 refine JR ?_;intro w0 F0 hs;clear hs;have k9:=F0.r0.k10.2.2.2.2.2.2.2.2.2
 go_wp2_with (refine F0.loadMid 1 56 [Bb m.pk.src,Bb m.pk.dst,Bb m.pk.seq,.slice (o 23) m.pk.data.length (c 23),Bb m.pk.tmo] rfl rfl rfl rfl rfl Qh ?_)
 refine (aG _ F0.b _ (aJ _ F0.b)).mono ?_;rintro e w1 ⟨aO,uv,rfl,hu,ou,nu,cu,rfl⟩;have F1:=F0.go aO;have HU:=hid hu;have l0:=F0.r0.lt;clear aO hu aG aJ F0 k9;generalize aQ:Qji s.purses m.pk=cn at *;clear aQ
 by_cases hz:cn=0
 ·subst hz
  have HT:=hid (G.mp rfl);have aM:=HU.out rfl;have aH:=aA.out HT.out;have aE:=aC aH;have A:=hid (HQ.trans (if_pos HT.out));have S:=hid (HA.trans (if_pos HT.out));have aP:=hid (Qdb aI.out aE.1 aE.2);generalize Qa0 s.purses m.pk.dst m.pk.src (QQ m.pk.data)=L at *;clear aE HU G aC aA HQ HA aH;have k9:=F1.r0.k10.2.2.2.2.2.2.2.2.2;have z9:=F1.r0.frozen 9
  go_upto_region 5 with fail
  refine F1.cell 0 rfl ?_;intro w2 F2 O2;have aN:=hid (aM.only O2 l0);clear k9 z9 O2 aM F1
  go_wp2_with (first | refine F2.load 0 rfl Qa ?_ | refine F2.loadMid 1 56 [Bb m.pk.src,Bb m.pk.dst,Bb m.pk.seq,.slice (o 23) m.pk.data.length (c 23),Bb m.pk.tmo] rfl rfl rfl rfl rfl Qh ?_ | refine (F2.addAt (t:=5) (cs:=[.int .u8 49]) rfl).loadMid 1 32 [Bb m.sh.height,Bb m.sh.prf.index,Bb m.sh.prf.size,.slice (o 14) m.sh.prf.key.length (c 14),.slice (o 15) m.sh.prf.val.length (c 15),.slice (o 16) m.sh.prf.path.length (c 16),.bool m.sh.gap.hasL,.bool m.sh.gap.hasR,Bb m.sh.gap.left.index,Bb m.sh.gap.left.size,.slice (o 17) m.sh.gap.left.key.length (c 17),.slice (o 18) m.sh.gap.left.val.length (c 18),.slice (o 19) m.sh.gap.left.path.length (c 19),Bb m.sh.gap.right.index,Bb m.sh.gap.right.size,.slice (o 20) m.sh.gap.right.key.length (c 20),.slice (o 21) m.sh.gap.right.val.length (c 21),.slice (o 22) m.sh.gap.right.path.length (c 22)] rfl rfl rfl rfl rfl QN ?_)
  refine Qb4 ?_;intro wl hl q;have F3:=F2.go q
  have aL:=hid (show StV wl wl.heap.size (.agg #[.string s.name,Bb s.height,Bb s.time,.slice o1 n1 c1,.slice o2 n2 c2,.slice o3 n3 c3,.slice o4 n4 c4,.slice o5 n5 c5,.slice o6 n6 c6,.slice ou nu cu]) { s with purses:=L } by
   obtain ⟨u1,u2,u3,u4,u5,u6,u7,e,M⟩:=HV wl F3.b;simp only [BW,BN,BL,BO] at e;obtain ⟨-,-,-,rfl,rfl,rfl,rfl,rfl,rfl,rfl⟩:=e
   exact ⟨_,_,_,_,_,_,_,rfl,Qct M (Bh hN F3.b.size) (aN.out.past q).now⟩)
  refine (I.out { s with purses:=L } 49 _ _ _ F3.b aL.out (StB.of (HV wl F3.b)).purses aP.out hl HZ.out).mono ?_
  rintro e w4 ⟨C,v4,rfl,j⟩;have F4:=F3.go C;have aB:=hid j;have T:=hid F3.b.size;have aF:=F3.r2.lt;obtain ⟨e1,f1,g1,e2,f2,g2,e3,f3,g3,e4,f4,g4,e5,f5,g5,e6,f6,g6,e7,f7,g7,rfl⟩:=j.open
  have Y:=hid (show Qn2 s m.pk z=ZV { s with purses:=L } m.pk ([49]:Bg).length z by rw [HE.out,A.out];rfl)
  generalize ZV { s with purses:=L } m.pk ([49]:Bg).length z=re at *
  clear C j hl q F2 F3 I aL aN
  go_wp2_with (refine F4.store 2 rfl Qa (by simp) ?_;intro w6 F6 O6)
  refine Qk results62 rfl F6.r2 Qa rfl ⟨F6.b,_,by rw [Y.out];rfl,?_⟩
  rw [aK.out,A.out,S.out];exact (aB.out.only O6 (by omega) aF).lower T.out
 ·have hzb:(cn != 0)=true:=by simpa using hz
  have HT:=hid (show ¬ QbL s m.pk=true from fun h=>hz (G.mpr h))
  have A:=hid (HQ.trans (if_neg HT.out));have S:=hid (HA.trans (if_neg HT.out));clear hz HU G aC aA HQ HA
  go_wp2_with (first | refine F1.load 0 rfl Qa ?_ | refine F1.loadMid 1 56 [Bb m.pk.src,Bb m.pk.dst,Bb m.pk.seq,.slice (o 23) m.pk.data.length (c 23),Bb m.pk.tmo] rfl rfl rfl rfl rfl Qh ?_ | refine (F1.addAt (t:=5) (cs:=[.int .u8 48]) rfl).loadMid 1 32 [Bb m.sh.height,Bb m.sh.prf.index,Bb m.sh.prf.size,.slice (o 14) m.sh.prf.key.length (c 14),.slice (o 15) m.sh.prf.val.length (c 15),.slice (o 16) m.sh.prf.path.length (c 16),.bool m.sh.gap.hasL,.bool m.sh.gap.hasR,Bb m.sh.gap.left.index,Bb m.sh.gap.left.size,.slice (o 17) m.sh.gap.left.key.length (c 17),.slice (o 18) m.sh.gap.left.val.length (c 18),.slice (o 19) m.sh.gap.left.path.length (c 19),Bb m.sh.gap.right.index,Bb m.sh.gap.right.size,.slice (o 20) m.sh.gap.right.key.length (c 20),.slice (o 21) m.sh.gap.right.val.length (c 21),.slice (o 22) m.sh.gap.right.path.length (c 22)] rfl rfl rfl rfl rfl QN ?_)
  refine Qb4 ?_;intro wl hl q;have F3:=F1.go q;refine (I.out s 48 _ _ _ F3.b ((HV wl F3.b).mono (Bh hN F3.b.size)) (StB.of (HV wl F3.b)) aI.out hl HZ.out).mono ?_;rintro e w4 ⟨C,v4,rfl,j⟩;have F4:=F3.go C;have aB:=hid j;have T:=hid F3.b.size;have aF:=F3.r2.lt;obtain ⟨e1,f1,g1,e2,f2,g2,e3,f3,g3,e4,f4,g4,e5,f5,g5,e6,f6,g6,e7,f7,g7,rfl⟩:=j.open;have Y:=hid (show Qn2 s m.pk z=ZV s m.pk ([48]:Bg).length z by rw [HE.out,A.out];rfl)
  generalize ZV s m.pk ([48]:Bg).length z=re at *;clear C j hl q F1 F3 I
  go_wp2_with (refine F4.store 2 rfl Qa (by simp) ?_;intro w6 F6 O6)
  refine Qk results62 rfl F6.r2 Qa rfl ⟨F6.b,_,by rw [Y.out];rfl,?_⟩
  rw [aK.out,A.out,S.out];exact (aB.out.only O6 (by omega) aF).lower T.out
end Go.Proofs.YtnedafiokmjkkaaGreatDoor
