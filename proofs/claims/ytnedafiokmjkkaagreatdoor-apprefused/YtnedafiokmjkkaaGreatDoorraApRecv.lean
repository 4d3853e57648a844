/- A packet is received. -/
import Derived.Test.YtnedafiokmjkkaaGreatDoorraPkSend
namespace Go.Proofs.YtnedafiokmjkkaaGreatDoor
open Tryz
set_option maxRecDepth 1000000
set_option maxHeartbeats 8000000
open Go.RowKit
variable {W w w':World} {B N g k n:Nat} {c0 sv v v1 v2 v3 v4 v5 v6 v7:Value} {s:St} {oa:Option Addr} {ch h:Int} {p:Pk}
def StB (w:World) (N:Nat) (v:Value) (s:St):Prop:=∃ x y z v1 v2 v3 v4 v5 v6 v7,v=.agg #[x,y,z,v1,v2,v3,v4,v5,v6,v7]∧Zp w N { s with purses:=[] } v1 v2 v3 v4 v5 v6 (Bc)
theorem StB.of (h:StV w N v s):StB w N v s:=by
 obtain ⟨v1,v2,v3,v4,v5,v6,v7,rfl,hm⟩:=h;exact ⟨_,_,_,_,_,_,_,_,_,_,rfl,hm.clients,hm.conns,hm.chans,hm.sent,hm.got,hm.acks,Qt.nil _ _ _ _⟩
theorem StB.below (h:StB w N v s) (hb:Below N w w'):StB w' N v s:=by
 obtain ⟨x,y,z,v1,v2,v3,v4,v5,v6,v7,rfl,hm⟩:=h;exact ⟨_,_,_,_,_,_,_,_,_,_,rfl,hm.below hb⟩
theorem QvE (s:St) (v:Value) (N K:Nat) (w:World) (hv:StV w K v s) (h6:StB w N v s) (m:N≤K) (hK:K≤w.heap.size) (j:s.fits) (d:few s):Calls prog 32 #[v] w fun e w'=>Bd w w'∧∃ p1 d1 p2 d2 p3 d3 p4 d4 p5 d5 p6 d6 p7 d7,e=.returned (.agg #[.string s.name,Bb s.height,Bb s.time,.slice p1 s.clients.length d1,.slice p2 s.conns.length d2,.slice p3 s.chans.length d3,.slice p4 s.sent.length d4,.slice p5 s.got.length d5,.slice p6 s.acks.length d6,.slice p7 s.purses.length d7])∧Qu (fun b=>b<N∨w.heap.size≤b) w.heap.size w' s noX (.slice p1 s.clients.length d1) (.slice p2 s.conns.length d2) (.slice p3 s.chans.length d3) (.slice p4 s.sent.length d4) (.slice p5 s.got.length d5) (.slice p6 s.acks.length d6) (.slice p7 s.purses.length d7):=by
 obtain ⟨o1,c1,o2,c2,o3,c3,o4,c4,o5,c5,o6,c6,o7,c7,rfl,hm⟩:=hv.open;obtain ⟨x,y,z,v1,v2,v3,v4,v5,v6,v7,e,h6⟩:=h6;obtain ⟨rfl,rfl,rfl,rfl,rfl,rfl,rfl,rfl,rfl,rfl⟩:=e;exact Qrp s o1 o2 o3 o4 o5 o6 o7 c1 c2 c3 c4 c5 c6 c7 N K w hm h6 m hK j d
theorem QoR {A2 A3 A4 A5 A6 A7 A8 A9 Aa Ab Ac Ad Ae Af Ag Ah Ai Aj Ak Al Am An Ao Ap Aq Ar As At Au Av Aw Ax Ay Az AA AB AC AD AE AF AG AH AI AJ AK AL AM AN AO AP AQ AR AS AT AU AV AW AX AY AZ B0 B1 B2 B3 B4 B5 B6 B7 B8 B9 Ba:Value} {x0 x1 x2 x3 x4 x5 x6 x7 x9 p0 p3 p4:Value} {na ca:Nat} {o6:Option Addr} {dig:Bg} (C:Hid (Row w N 28 [x0,x1,x2,x3,x4,x5,x6,x7,.slice o6 k B,x9])) (A:Hid (Row w g 51 [p0,Bb ch,Bb h,p3,p4]))  (z:∀ W,Bd w W→Calls prog 130 #[.slice oa na ca] W fun e w'=>∃ od cd,e=.returned (.slice od 32 cd)∧Qq w' W.heap.size (.slice od 32 cd) dig∧Bd W w') (b:Value→World→Prop) (j:∀ v W,b v W→Row W N 28 [x0,x1,x2,x3,x4,x5,x6,x7,.slice o6 k B,x9]∧∃ o n c,v=.slice o n c)
  (m:∀ W od cd,Bd w W→Qq W w.heap.size (.slice od 32 cd) dig→Calls prog 119 #[.slice o6 k B,.agg #[Bb ch,Bb h,.slice od 32 cd]] W fun e w'=>∃ v,e=.returned v∧b v w') (Q:Exit→Act→World→Prop)
  (hQ:Hid (∀ (σ:Nat→Value) (W:World),b (σ 9) W→Q .normal ⟨#[v4,v5,.slice oa na ca,v6,.pointer (some ⟨N,0,none⟩),.pointer (some ⟨g,0,none⟩),v2,v3,v7,v1,sv,c0,A2,A3,A4,A5,A6,A7,A8,A9,Aa,Ab,Ac,Ad,Ae,Af,Ag,Ah,Ai,Aj,Ak,Al,Am,An,Ao,Ap,Aq,Ar,As,At,Au,Av,Aw,Ax,Ay,Az,AA,AB,AC,AD,AE,AF,AG,AH,AI,AJ,AK,AL,AM,AN,AO,AP,AQ,AR,AS,AT,AU,AV,AW,AX,AY,σ 0,σ 1,σ 2,σ 3,σ 4,σ 5,σ 6,σ 7,σ 8,σ 9,σ 10,AZ],[]⟩ (W.setCell ⟨N,8,none⟩ (σ 9)))) :
  Code.wp prog (.region 12 ((f94.body.bind (Qaz 12)).getD #[]) true) Q ⟨#[v4,v5,.slice oa na ca,v6,.pointer (some ⟨N,0,none⟩),.pointer (some ⟨g,0,none⟩),v2,v3,v7,v1,sv,c0,A2,A3,A4,A5,A6,A7,A8,A9,Aa,Ab,Ac,Ad,Ae,Af,Ag,Ah,Ai,Aj,Ak,Al,Am,An,Ao,Ap,Aq,Ar,As,At,Au,Av,Aw,Ax,Ay,Az,AA,AB,AC,AD,AE,AF,AG,AH,AI,AJ,AK,AL,AM,AN,AO,AP,AQ,AR,AS,AT,AU,AV,AW,AX,AY,B0,B1,B2,B3,B4,B5,B6,B7,B8,B9,Ba,AZ],[]⟩ w:=by
 conv=>arg 2;arg 2;whnf
 conv=>arg 4;dsimp only
 refine Qe9 9 (by kernel_rfl) (fun σ=>#[v4,v5,.slice oa na ca,v6,.pointer (some ⟨N,0,none⟩),.pointer (some ⟨g,0,none⟩),v2,v3,v7,v1,sv,c0,A2,A3,A4,A5,A6,A7,A8,A9,Aa,Ab,Ac,Ad,Ae,Af,Ag,Ah,Ai,Aj,Ak,Al,Am,An,Ao,Ap,Aq,Ar,As,At,Au,Av,Aw,Ax,Ay,Az,AA,AB,AC,AD,AE,AF,AG,AH,AI,AJ,AK,AL,AM,AN,AO,AP,AQ,AR,AS,AT,AU,AV,AW,AX,AY,σ 0,σ 1,σ 2,σ 3,σ 4,σ 5,σ 6,σ 7,σ 8,σ 9,σ 10,AZ]) (fun i=>([B0,B1,B2,B3,B4,B5,B6,B7,B8,B9,Ba,undef]:List Value).getD i undef) rfl (.pointer (some ⟨N,8,none⟩)) (fun i X W=>match i with
  | 0=>X=.pointer (some ⟨N,8,none⟩)
  | 1=>X=.slice o6 k B
  | 2=>X=.pointer (some ⟨g,1,none⟩)
  | 3=>X=Bb ch
  | 4=>X=.pointer (some ⟨g,2,none⟩)
  | 5=>X=Bb h
  | 6=>X=.slice oa na ca
  | 7=>∃ od cd,X=.slice od 32 cd∧Qq W w.heap.size (.slice od 32 cd) dig
  | 8=>∃ od cd,X=.agg #[Bb ch,Bb h,.slice od 32 cd]∧Qq W w.heap.size (.slice od 32 cd) dig
  | _=>True) ?_ b (fun v W=>∃ W0,b v W0∧W=W0.setCell ⟨N,8,none⟩ v) (by kernel_rfl) ?_ ?_ ?_ ?_ ?_
 ·intro i X W W' HB H
  iterate 9 (obtain _ | i:=i;first | exact H | exact (by obtain ⟨od,cd,h1,h2⟩:=H;exact ⟨od,cd,h1,h2.below HB⟩))
  exact H
 ·refine ⟨?_,?_,?_,?_,?_,?_,?_,?_,?_,trivial⟩
  all_goals (intro σ W HJ d;simp at d;have HJ:=hid HJ;obtain ⟨gsk0,gsk1,gsk2,gsk3,gsk4,gsk5,gsk6,gsk7,gsk8,gsk9⟩:=(rg C HJ).k10;obtain ⟨gpk0,gpk1,gpk2,gpk3,gpk4⟩:=(rg A HJ).k5)
  iterate 7 (refine Qb rfl rfl ?_;go_simp;exact QK.mk0 _ (by first | rfl | simp [Qn, *]) HJ.out rfl)
  ·have HC:=hid (z W HJ.out)
   refine Qb rfl rfl ?_;go_simp;refine HC.out.mono ?_;rintro e w2 ⟨od,cd,rfl,ho,hb⟩;exact QK.mk _ (by first | rfl | simp [Qn, *]) hb HJ.out ⟨od,cd,rfl,Qcf ho HJ.out.size⟩
  ·obtain ⟨d3,d5,od,cd,d6,ho⟩:=d
   have HO:=hid ho;clear ho;refine Qb rfl rfl ?_;go_simp;exact QK.mk0 (.agg #[Bb ch,Bb h,.slice od 32 cd]) (by first | rfl | simp [Qn, *]) HJ.out ⟨od,cd,rfl,HO.out⟩
 ·intro σ W HJ hg
  have eL:σ 1=.slice o6 k B:=hg 1 (by decide)
  obtain ⟨od,cd,eB,ho⟩:∃ od cd,σ 8=.agg #[Bb ch,Bb h,.slice od 32 cd]∧Qq W w.heap.size (.slice od 32 cd) dig:=hg 8 (by decide)
  have HC:=hid (m W od cd HJ ho);clear hg HJ ho;refine Qb rfl rfl ?_;go_simp;refine HC.out.mono ?_;rintro e w2 ⟨v,rfl,hp⟩;exact ⟨v,by first | rfl | simp [Qn, *],hp⟩
 ·intro σ W
  refine Qb rfl rfl ?_;go_simp;exact ⟨by first | rfl | simp [Qn, *],rfl⟩
 ·intro σ W eu hp
  obtain ⟨hr,o,n,c,ev⟩:=j _ _ hp;have kc:=hr.cell 8;have kz:=hr.frozen 8;simp at kc;have HP:=hid hp;clear hp hr;refine Qb rfl rfl ?_;go_simp;rw [ev] at HP;exact ⟨undef,by first | rfl | simp [Qn, *],W,HP.out,by first | rfl | rw [ev]⟩
 ·rintro σ W ⟨W0,hp,rfl⟩ _
  exact hQ.out σ W0 hp
theorem Qqm (s:St) (c:Ch) (f:Cl) (p:Pk) (v ev pv:Value) (N:Nat) (w:World) (hv:StV w N v s) (he:QdA w N ev c f) (hp:PkV w N pv p) (hN:N≤w.heap.size) (h0:Qd s=0) :
  Calls prog 164 #[v,ev,pv] w fun e w'=>e=.returned (.bool (QcA s c p))∧Bd w w':=by
 have HE:QcA s c p=if c.ordered=true then decide (p.seq≠c.recv) else (ZM s.got p.dst p.seq).isSome:=rfl
 have hR:=QD h0;have hlen:=hR.many.2.2.2.1;have m:=hid hR.got.2;obtain ⟨o1,c1,o2,c2,o3,c3,o4,c4,o5,c5,o6,c6,o7,c7,rfl,hm⟩:=hv.open;obtain ⟨ka,ma,rfl,hfv⟩:=he;obtain ⟨od,cd,rfl,hd⟩:=hp.open;have d:=fun W (hx:Bd w W)=>Qdv s.got p.dst p.seq _ N W (Bh hN hx.size) (hm.below (hx.mono hN)).got m.out (by omega)
 go_in
 go_upto_region 1 with fail
 refine JP ?_;intro w0 F hs;have k1:=F.r1.k11.2.1;have k5:=F.r1.k11.2.2.2.2.2.1;obtain ⟨m0,m1,m2,m3,m4⟩:=F.r2.k5;have k7:=F.r0.k10.2.2.2.2.2.2.2.1
 cases ho:c.ordered with
 | true =>
  rw [ho] at k1;have HL:=hid (HE.trans (if_pos ho));have e1:decide (p.seq≠c.recv)=(p.seq != c.recv):=by rw [Di];simp
  have j:=HL.out.trans e1;go_wp2;go_ret;exact ⟨by rw [j];rfl,F.b⟩
 | false =>
  rw [ho] at k1;have HL:=hid (HE.trans (if_neg (by simp [ho])))
  go_wp2_with fail
  refine (d w0 F.b).mono ?_;rintro e w1 ⟨rfl,q⟩;have F1:=F.go q;generalize (ZM s.got p.dst p.seq).isSome=bb at *;go_wp2;go_ret;exact ⟨by rw [HL.out];rfl,F1.b⟩
theorem QsB (s:St) (p:Pk) (v pv:Value) (oa:Option Addr) (na ca:Nat) (N:Nat) (w:World) (hv:StV w N v s) (hp:PkV w N pv p) (hN:N≤w.heap.size) (z:s.fits) :
  Calls prog 128 #[v,pv,.slice oa na ca] w fun e w'=>Bd w w'∧∃ ev,e=.returned (.tuple #[ev,Bb (YT s p na)])∧Qev w' N ev s p.dst (YT s p na):=by
 have HE:=hid (show YT s p na=if QA p≠0 then QA p else if Ja s p.dst [3]≠0 then Ja s p.dst [3] else if (Qx s p.dst).ochan≠p.src then 8 else if p.tmo≤s.height then 11
  else if QcA s (Qx s p.dst) p=true then 12 else if (50≤s.got.length∨50≤s.acks.length)∨150<na∨1000000000000≤(Qx s p.dst).recv then 5 else 0 from rfl)
 have d:=hid (show ∀ (w:World),YT s p na≠0→Qev w N (.agg #[Bb 0,.bool false,Bb 0,Bb 0,Bb 0,Bb 0,Bb 0,.string ⟨#[]⟩,Bb 0,.bool false,Bc]) s p.dst (YT s p na) from fun w hz=>⟨fun h=>absurd h hz,fun _=>rfl⟩)
 have aC:=hid (fun W (hx:Bd w W)=>Qeo p pv N W (hp.below (hx.mono hN)))
 have S:=hid (fun W gl (hx:Bd w W) (hr:Row W gl 3 [Bb 3])=>QhP s v N W p.dst [3] gl 1 (hv.below (hx.mono hN)) (Bh hN hx.size) z hr rfl (by decide))
 have aB:=hid (fun W ev (c:Ch) (f:Cl) (hx:Bd w W) (he:QdA W N ev c f) (h0:Qd s=0)=>Qqm s c f p v ev pv N W (hv.below (hx.mono hN)) he (hp.below (hx.mono hN)) (Bh hN hx.size) h0)
 obtain ⟨o1,c1,o2,c2,o3,c3,o4,c4,o5,c5,o6,c6,o7,c7,rfl,hm⟩:=hv.open;obtain ⟨odd,cdd,rfl,hd⟩:=hp.open;clear hv hm hp hd z
 go_in
 go_upto_region 1 with fail
 refine JP ?_;intro w0 F0 aK
 go_wp2_with (refine F0.load 1 rfl Qh ?_)
 refine (aC.out w0 F0.b).mono ?_;rintro e w1 ⟨rfl,aD⟩;have F1:=F0.go aD;clear aD F0 aK aC
 by_cases hz:QA p=0
 ·have C:=hid (HE.out.trans (if_neg (by simp [hz])))
  rw [hz];clear hz HE;have m1:=F1.r1.k5.2.1
  go_wp2_with (refine F1.load 0 rfl Qa ?_)
  refine QbZ ?_;intro w2 aH L;refine (S.out w2 _ (F1.go L).b aH).mono ?_;rintro e w3 ⟨aE,ev,rfl,O⟩;have F3:=(F1.go L).go aE;obtain ⟨y0,y1,y2,y3,y4,y5,y6,y7,y8,y9,y10,m,A⟩:=O.cells;subst m;have T:=hid O;have aA:=hid A;clear O A aH L aE F1 S m1
  go_upto_region 5 with (refine F3.storeNew rfl Qk aA.out ?_;intro w4 F4 aF)
  have q:=hid (T.out.below (aF.mono (Bh hN F3.b.size)));clear T aA aF F3
  by_cases hz:Ja s p.dst [3]=0
  ·have D:=hid (C.out.trans (if_neg (by simp [hz])))
   obtain ⟨ka,ma,m,aG⟩:=q.out.1 hz;have aJ:=hid (Yn hz).1;simp only [BX,BP,BM,BQ] at m;obtain ⟨rfl,rfl,rfl,rfl,rfl,rfl,rfl,rfl,rfl,rfl,rfl⟩:=m;have aI:=hid (show ∀ (w:World) (ev:Value),YT s p na=0→QdA w N ev (Qx s p.dst) (Qbk s p.dst)→Qev w N ev s p.dst (YT s p na) from fun w ev h1 h2=>⟨fun _=>h2,fun h=>absurd h1 h⟩)
   rw [hz];have I:=hid aG;clear hz aG q C;generalize Qx s p.dst=c at *;generalize Qbk s p.dst=f at *;have k3:=F4.r3.k11.2.2.2.1;have k5:=F4.r3.k11.2.2.2.2.2.1;obtain ⟨m0,m1,m2,m3,m4⟩:=F4.r1.k5;obtain ⟨s0,s1,s2,s3,s4,s5,s6,s7,s8,s9⟩:=F4.r0.k10
   by_cases h1:c.ochan=p.src
   ·have E:=hid (D.out.trans (if_neg (by simp [h1])))
    have e1:(c.ochan != p.src)=false:=by simpa using h1
    clear h1 D
    by_cases h2:p.tmo≤s.height
    ·have HL:=hid (E.out.trans (if_pos h2))
     have e2:decide (p.tmo≤s.height)=true:=by simpa using h2
     clear h2
     go_wp2_with (refine F4.store 2 rfl Qk (by simp) ?_;intro wz FZ OZ)
     exact Ql results128 rfl FZ.r2 Qk rfl ⟨FZ.b,_,by rw [HL.out];rfl,d.out _ (by rw [HL.out];decide)⟩
    have G:=hid (E.out.trans (if_neg h2));have e2:decide (p.tmo≤s.height)=false:=by simpa using h2
    clear h2 E
    go_upto_region 11 with fail
    clear k3 k5 m0 m1 m2 m3 m4 s0 s1 s2 s3 s4 s5 s6 s7 s8 s9 e1 e2
    go_wp2_with (first | refine F4.load 0 rfl Qa ?_ | refine F4.load 3 rfl Qk ?_ | refine F4.load 1 rfl Qh ?_)
    refine (aB.out w4 _ c f F4.b ⟨ka,ma,rfl,I.out⟩ aJ.out).mono ?_;rintro e w5 ⟨rfl,M⟩;have F5:=F4.go M;have Y:=hid (I.out.below (M.mono (Bh hN F4.b.size)));clear M F4 I aB;have k5:=F5.r3.k11.2.2.2.2.2.1;obtain ⟨s0,s1,s2,s3,s4,s5,s6,s7,s8,s9⟩:=F5.r0.k10
    by_cases h3:QcA s c p=true
    ·have HL:=hid (G.out.trans (if_pos h3))
     rw [h3];clear h3
     go_wp2_with (refine F5.store 2 rfl Qk (by simp) ?_;intro wz FZ OZ)
     exact Ql results128 rfl FZ.r2 Qk rfl ⟨FZ.b,_,by rw [HL.out];rfl,d.out _ (by rw [HL.out];decide)⟩
    have j:=hid (G.out.trans (if_neg h3));rw [show QcA s c p=false by simpa using h3]
    clear h3 G
    by_cases h4:50≤s.got.length∨50≤s.acks.length
    ·have HL:=hid (j.out.trans (if_pos (.inl h4)))
     have e4:decide ((50:Int)≤max (s.got.length:Int) (s.acks.length:Int))=true:=by simp;omega
     clear j h4
     go_wp2_with (refine F5.store 2 rfl Qk (by simp) ?_;intro wz FZ OZ)
     exact Ql results128 rfl FZ.r2 Qk rfl ⟨FZ.b,_,by rw [HL.out];rfl,d.out _ (by rw [HL.out];decide)⟩
    have e4:decide ((50:Int)≤max (s.got.length:Int) (s.acks.length:Int))=false:=by simp;omega
    by_cases h5:150<na
    ·have HL:=hid (j.out.trans (if_pos (.inr (.inl h5))))
     have e5:decide ((150:Int)<(na:Int))=true:=by simp;omega
     clear j h4 h5
     go_wp2_with (refine F5.store 2 rfl Qk (by simp) ?_;intro wz FZ OZ)
     exact Ql results128 rfl FZ.r2 Qk rfl ⟨FZ.b,_,by rw [HL.out];rfl,d.out _ (by rw [HL.out];decide)⟩
    have e5:decide ((150:Int)<(na:Int))=false:=by simp;omega
    by_cases h6:1000000000000≤c.recv
    ·have HL:=hid (j.out.trans (if_pos (.inr (.inr h6))))
     have e6:decide ((1000000000000:Int)≤c.recv)=true:=by simpa using h6
     clear j h4 h5 h6
     go_wp2_with (refine F5.store 2 rfl Qk (by simp) ?_;intro wz FZ OZ)
     exact Ql results128 rfl FZ.r2 Qk rfl ⟨FZ.b,_,by rw [HL.out];rfl,d.out _ (by rw [HL.out];decide)⟩
    have e6:decide ((1000000000000:Int)≤c.recv)=false:=by simpa using h6
    have HL:=hid (j.out.trans (if_neg (by omega)))
    clear j h4 h5 h6
    go_upto_region 15 with fail
    clear s0 s1 s2 s3 s4 s5 s6 s7 s8 s9 k5
    go_wp2_with (first | refine F5.load 3 rfl Qk ?_ | (refine F5.store 2 rfl Qk (by simp) ?_;intro wz FZ OZ))
    exact Ql results128 rfl FZ.r2 Qk rfl ⟨FZ.b,_,by rw [HL.out];rfl,aI.out _ _ HL.out ⟨ka,ma,rfl,Y.out.below (OZ.down (Bi N _) (by omega))⟩⟩
   ·have HL:=hid (D.out.trans (if_pos h1))
    have e1:(c.ochan != p.src)=true:=by simpa using h1
    clear h1
    go_wp2_with (refine F4.store 2 rfl Qk (by simp) ?_;intro wz FZ OZ)
    exact Ql results128 rfl FZ.r2 Qk rfl ⟨FZ.b,_,by rw [HL.out];rfl,d.out _ (by rw [HL.out];decide)⟩
  ·have HL:=hid (C.out.trans (if_pos hz))
   have e0:(Ja s p.dst [3] != 0)=true:=by simpa using hz
   have HZ:=hid hz;clear hz
   go_wp2_with (refine F4.store 2 rfl Qk (by simp) ?_;intro wz FZ OZ)
   exact Ql results128 rfl FZ.r2 Qk rfl ⟨FZ.b,_,by rw [HL.out];rfl,d.out _ (by rw [HL.out];exact HZ.out)⟩
 ·have HL:=hid (HE.out.trans (if_pos hz))
  have e0:(QA p != 0)=true:=by simpa using hz
  have HZ:=hid hz;clear hz
  go_wp2_with (refine F1.store 2 rfl Qk (by simp) ?_;intro wz FZ OZ)
  exact Ql results128 rfl FZ.r2 Qk rfl ⟨FZ.b,_,by rw [HL.out];rfl,d.out _ (by rw [HL.out];exact HZ.out)⟩
theorem Qmr (a b:Int) (ha:0≤a∧a≤1000000000000) (hb:0≤b∧b≤1000000000000) (w:World) (j:QL w):Calls prog 129 #[Bb a,Bb b] w fun e w'=>∃ v,e=.returned v∧Jc w' w.heap.size v (Jr QhA [a.toNat,b.toNat])∧Bd w w':=by
 obtain ⟨w0,d⟩:∃ w0,w.alloc (.cells #[Bb a,Bb b] 3)=w0:=⟨_,rfl⟩;have q:=bof d;have m:=hid q;have HK:=hid (QaN ⟨#[115,101,110,116]⟩ [a,b] w.heap.size 2 w0 (by decide) (by rw [← d];exact Row.new _ _ _) rfl (by decide) (fun n hn=>by simp at hn;omega) (j.below q))
 have z:=hid d;clear q d j
 go_in
 go_wp2_with fail
 rw [z.out];refine HK.out.mono ?_;rintro e w1 ⟨v,rfl,ho,hb⟩;have HO:=hid ho;have HB:=hid hb;clear ho hb;go_wp2;go_ret;exact ⟨v,rfl,HO.out.mono m.out.size,m.out.trans (HB.out.mono m.out.size)⟩
theorem Qnp (a b:Int) (ha:0≤a∧a≤1000000000000) (hb:0≤b∧b≤1000000000000) (w:World) (j:QL w):Calls prog 171 #[Bb a,Bb b] w fun e w'=>∃ v,e=.returned v∧Jc w' w.heap.size v (Jr Qhz [a.toNat,b.toNat])∧Bd w w':=by
 obtain ⟨w0,d⟩:∃ w0,w.alloc (.cells #[Bb a,Bb b] 3)=w0:=⟨_,rfl⟩;have q:=bof d;have m:=hid q;have HK:=hid (QaN ⟨#[103,111,116]⟩ [a,b] w.heap.size 2 w0 (by decide) (by rw [← d];exact Row.new _ _ _) rfl (by decide) (fun n hn=>by simp at hn;omega) (j.below q))
 have z:=hid d;clear q d j
 go_in
 go_wp2_with fail
 rw [z.out];refine HK.out.mono ?_;rintro e w1 ⟨v,rfl,ho,hb⟩;have HO:=hid ho;have HB:=hid hb;clear ho hb;go_wp2;go_ret;exact ⟨v,rfl,HO.out.mono m.out.size,m.out.trans (HB.out.mono m.out.size)⟩
theorem QmQ (a b:Int) (ha:0≤a∧a≤1000000000000) (hb:0≤b∧b≤1000000000000) (w:World) (j:QL w):Calls prog 168 #[Bb a,Bb b] w fun e w'=>∃ v,e=.returned v∧Jc w' w.heap.size v (Jr Qhy [a.toNat,b.toNat])∧Bd w w':=by
 obtain ⟨w0,d⟩:∃ w0,w.alloc (.cells #[Bb a,Bb b] 3)=w0:=⟨_,rfl⟩;have q:=bof d;have m:=hid q;have HK:=hid (QaN ⟨#[97,99,107]⟩ [a,b] w.heap.size 2 w0 (by decide) (by rw [← d];exact Row.new _ _ _) rfl (by decide) (fun n hn=>by simp at hn;omega) (j.below q))
 have z:=hid d;clear q d j
 go_in
 go_wp2_with fail
 rw [z.out];refine HK.out.mono ?_;rintro e w1 ⟨v,rfl,ho,hb⟩;have HO:=hid ho;have HB:=hid hb;clear ho hb;go_wp2;go_ret;exact ⟨v,rfl,HO.out.mono m.out.size,m.out.trans (HB.out.mono m.out.size)⟩
theorem Ql3 (a:Int) (ha:0≤a∧a≤1000000000000) (w:World) (d:QL w):Calls prog 172 #[Bb a] w fun e w'=>∃ v,e=.returned v∧Jc w' w.heap.size v (Jr Qeh [a.toNat])∧Bd w w':=by
 obtain ⟨w0,b⟩:∃ w0,w.alloc (.cells #[Bb a] 3)=w0:=⟨_,rfl⟩;have m:=bof b;have j:=hid m;have HK:=hid (QaN ⟨#[110,101,120,116]⟩ [a] w.heap.size 1 w0 (by decide) (by rw [← b];exact Row.new _ _ _) rfl (by decide) (fun n hn=>by simp at hn;omega) (d.below m))
 have q:=hid b;clear m b d
 go_in
 go_wp2_with fail
 rw [q.out];refine HK.out.mono ?_;rintro e w1 ⟨v,rfl,ho,hb⟩;have HO:=hid ho;have HB:=hid hb;clear ho hb;go_wp2;go_ret;exact ⟨v,rfl,HO.out.mono j.out.size,j.out.trans (HB.out.mono j.out.size)⟩
theorem Ql4 (a:Int) (ha:0≤a∧a≤1000000000000) (w:World):Calls prog 173 #[Bb a] w fun e w'=>∃ v,e=.returned v∧Jc w' w.heap.size v (ZF [a])∧Bd w w':=by
 obtain ⟨w0,b⟩:∃ w0,w.alloc (.cells #[Bb a] 3)=w0:=⟨_,rfl⟩;have j:=bof b;have d:=hid j;have HK:=hid (Qbr [a] w.heap.size 1 w0 (by rw [← b];exact Row.new _ _ _) rfl (by decide) (fun n hn=>by simp at hn;omega))
 have m:=hid b;clear j b
 go_in
 go_wp2_with fail
 rw [m.out];refine HK.out.mono ?_;rintro e w1 ⟨v,rfl,ho,hb⟩;have HO:=hid ho;have HB:=hid hb;clear ho hb;go_wp2;go_ret;exact ⟨v,rfl,HO.out.mono d.out.size,d.out.trans (HB.out.mono d.out.size)⟩
theorem Qhw {k:Bg} {a b:Int} (hk:k.length≤4) (ha:0≤a∧a≤1000000000000) (hb:0≤b∧b≤1000000000000):(Jr k [a.toNat,b.toNat]).length≤140737488351232:=by
 have h:=Qag 12 a.toNat (by omega)
 have h':=Qag 12 b.toNat (by omega)
 simp [Jr];omega
theorem QrT {k:Bg} {a:Int} (hk:k.length≤4) (ha:0≤a∧a≤1000000000000):(Jr k [a.toNat]).length≤140737488351232:=by
 have h:=Qag 12 a.toNat (by omega)
 simp [Jr];omega
theorem Qqd (a:Int) (ha:0≤a∧a≤1000000000000):(ZF [a]).length≤140737488351232:=by
 have:=(QgE [a] (by simp) (fun n hn=>by simp at hn;omega)).2
 omega
theorem QrL {base:Nat} (dig:Bg) (od:Option Addr) (nd cd:Nat) (h:Qu (fun b=>b<N∨B≤b) base W s (fun w2=>Bytes w2 w2.heap.size (.slice od nd cd) dig) v1 v2 v3 v4 v5 v6 v7) (hB:B≤base) (hb:base≤W.heap.size) (hs:QaQ s.got) (hl:s.got.length≤1000) (ch seq:Int) :
  Calls prog 119 #[v5,.agg #[Bb ch,Bb seq,.slice od nd cd]] W fun e w'=>∃ v',e=.returned v'∧W.grownBy w' v5.ownBlock∧Qu (fun b=>b<N∨B≤b) base w' { s with got:=QX s.got ⟨ch,seq,dig⟩ } (fun w2=>Bytes w2 w2.heap.size (.slice od nd cd) dig) v1 v2 v3 v4 v' v6 v7:=by
 obtain ⟨rs,m,hE,j⟩:=h.putGot;refine (Qik s.got ⟨ch,seq,dig⟩ od nd cd v5 base W rs m hE hs hl hb).mono ?_;rintro e w' ⟨hg,v',A,rfl,d,z,q⟩;exact ⟨v',rfl,hg,j w' v' A _ hg d z (fun b e=>.inr (Bh hB (Qf.own d b e).1)) q⟩
theorem QiY {base:Nat} (dig:Bg) (od:Option Addr) (nd cd:Nat) (h:Qu (fun b=>b<N∨B≤b) base W s (fun w2=>Bytes w2 w2.heap.size (.slice od nd cd) dig) v1 v2 v3 v4 v5 v6 v7) (hB:B≤base) (hb:base≤W.heap.size) (hs:QaQ s.acks) (hl:s.acks.length≤1000) (ch seq:Int) :
  Calls prog 119 #[v6,.agg #[Bb ch,Bb seq,.slice od nd cd]] W fun e w'=>∃ v',e=.returned v'∧W.grownBy w' v6.ownBlock∧Qu (fun b=>b<N∨B≤b) base w' { s with acks:=QX s.acks ⟨ch,seq,dig⟩ } (fun w2=>Bytes w2 w2.heap.size (.slice od nd cd) dig) v1 v2 v3 v4 v5 v' v7:=by
 obtain ⟨rs,m,hE,j⟩:=h.putAcks;refine (Qik s.acks ⟨ch,seq,dig⟩ od nd cd v6 base W rs m hE hs hl hb).mono ?_;rintro e w' ⟨hg,v',A,rfl,d,z,q⟩;exact ⟨v',rfl,hg,j w' v' A _ hg d z (fun b e=>.inr (Bh hB (Qf.own d b e).1)) q⟩
theorem Qmf {ack:Bg} {z:Int} (h:Qay s p ack.length z≠0):Qge s p ack z=St.none:=if_neg h
theorem QsA (h:YT s p n=0):QA p=0∧Ja s p.dst [3]=0∧(s.got.length<50∧s.acks.length<50)∧n≤150∧(Qx s p.dst).recv<1000000000000∧QcA s (Qx s p.dst) p=false∧(Qx s p.dst).ochan=p.src∧s.height<p.tmo:=by
 unfold YT at h
 split at h
 ·rename_i h1;exact absurd h h1
 rename_i h1
 split at h
 ·rename_i h2;exact absurd h h2
 rename_i h2
 split at h
 ·cases h
 rename_i h3
 split at h
 ·cases h
 rename_i h4
 split at h
 ·cases h
 rename_i h5
 split at h
 ·cases h
 rename_i h6;exact ⟨by simpa using h1,by simpa using h2,by omega,by omega,by omega,by simpa using h5,by simpa using h3,by omega⟩
theorem QL.past (h:QL w) (hb:Bd w w'):QL w':=h.below hb
theorem Qvb (s:St) (v pv av bK:Value) (p:Pk) (ack:Bg) (h:Sh) (N K:Nat) (w:World) (z:Int) (hv:StV w K v s) (h6:StB w N v s) (hp:PkV w K pv p) (ha:Bytes w K av ack) (hh:ShV w K bK h) (bB:N≤K) (hK:K≤w.heap.size) (M:s.fits) (bF:h.fits) (hal:ack.length≤140737488351232) (aI:Qi w) (aY:QL w) (hz:QeB s p h z) :
  Calls prog 94 #[v,pv,av,bK] w fun e w'=>Bd w w'∧∃ v',e=.returned (.tuple #[v',Bb (Qay s p ack.length z)])∧Qp N w.heap.size w' v' (Qge s p ack z):=by
 have hN:=Bh bB hK;have HE:=hid (show Qay s p ack.length z=if YT s p ack.length≠0 then YT s p ack.length else z from rfl)
 obtain ⟨oa,ca,rfl,-⟩:=ha.shape;have aw:=hid (fun W (hx:Bd w W)=>QsB s p v pv oa ack.length ca K W (hv.below (hx.mono hK)) (hp.below (hx.mono hK)) (Bh hK hx.size) M)
 have ah:=hid (fun W (hx:Bd w W) (bX:few s)=>QvE s v N K W (hv.below (hx.mono hK)) (h6.below (hx.mono hN)) bB (Bh hK hx.size) M bX)
 have a5:=hid (fun W (hx:Bd w W)=>aI.past hx)
 have au:=hid (fun W (hx:Bd w W)=>aY.below hx)
 have ae:=hid (fun W (hx:Bd w W)=>ha.below (hx.mono hK))
 have ai:=hid (fun W (hx:Bd w W) (hw:QA p=0)=>Qsr p pv K W (aI.past hx) (hp.below (hx.mono hK)) (Bh hK hx.size) hw)
 obtain ⟨o1,c1,o2,c2,o3,c3,o4,c4,o5,c5,o6,c6,o7,c7,rfl,hm⟩:=hv.open;obtain ⟨odd,cdd,rfl,bV⟩:=hp.open;obtain ⟨q1,e1,q2,e2,q3,e3,r1,s1,r2,s2,r3,s3,r4,s4,r5,s5,r6,s6,rfl,bI⟩:=hh.open;have ar:=hid (fun W (hx:Bd w W)=>bI.below (hx.mono hK))
 have ag:=hid M.2.1.2;have bO:=hid bF.1;have bA:=hid hz;clear hv hp hh hm bV bI M bF aI aY ha hz
 go_in
 go_upto_region 1 with fail
 refine Qah ?_;intro w0 F0 b1
 go_wp2_with (first | refine F0.load 0 rfl Qa ?_ | refine F0.load 1 rfl Qh ?_)
 refine (aw.out w0 F0.b).mono ?_;rintro e w1 ⟨a7,ev,rfl,a9⟩;have F1:=F0.go a7;have HS1:=hid (show w.heap.size+4≤w1.heap.size by have:=a7.size;omega)
 obtain ⟨y0,y1,y2,y3,y4,y5,y6,y7,y8,y9,y10,aE,aX⟩:=a9.cells;subst aE;have aj:=hid a9;have aq:=hid aX;clear a9 aX a7 F0 b1 aw
 go_upto_region 2 with (refine F1.storeNew rfl Qk aq.out ?_;intro w2 F2 bC)
 have aV:=hid (aj.out.below (bC.mono (Bh hK F1.b.size)));clear aj aq bC F1
 by_cases hz:YT s p ack.length=0
 ·have aL:=hid (HE.out.trans (if_neg (by simp [hz])))
  obtain ⟨ac,a8,hmny,hal2,b0,-⟩:=QsA hz;obtain ⟨j,k,m,c,d,f,aG,hj,aQ,bU,hd,bW,hf,aR,bM,b2,-⟩:=YZ a8;obtain ⟨ka,ma,aE,aa⟩:=aV.out.1 hz;rw [aQ,aR] at aE;rw [aR] at aa;rw [aQ] at b0;have ay:=hid (Yn a8).1;simp only [BX,BP,BM,BQ] at aE;obtain ⟨rfl,rfl,rfl,rfl,rfl,rfl,rfl,rfl,rfl,rfl,rfl⟩:=aE;rw [hz];have al:=hid aa;have HJ:=hid hj;have am:=hid aG;have af:=hid aQ;have bS:=hid (Jw bM);have bT:=hid ac;have hpo:=YY ac;have ad:=hid (show QT f s.time h.height (fun r=>h.prf.key=Jr QhA [p.src.toNat,p.seq.toNat]∧h.prf.val=Jd p∧JX r h.prf) z by have:=bA.out;unfold QeB at this;rw [aR] at this;exact this)
  have ak:=hid (ag.out f (Bn hf));clear hz aG hj aQ bU hd bW hf aR bM b2 aa aV HE ac a8 bA ag
  go_wp2_with (refine F2.load 1 rfl Qh ?_)
  refine (ai.out w2 F2.b bT.out).mono ?_;rintro e w3 ⟨dg,rfl,A,aN⟩;obtain ⟨od,cd,rfl,-⟩:=A.shape;rw [Qb5] at A ⊢;have F3:=F2.go aN;have aZ:=hid A.held;have aW:=hid (al.out.below (aN.mono (Bh hK F2.b.size)));have hsz3:=aN.size;have bG:=F2.lts;clear A aN ai al
  go_upto_region 5 with fail
  have an:=hid (fun W (hW:Bd w3 W)=>Qmr p.src p.seq (by omega) (by omega) W (au.out W (F3.go hW).b))
  have ao:=hid (fun W kv (hW:Bd w3 W) hk=>Qbc.z QeX f s.time h.height (Jr QhA [p.src.toNat,p.seq.toNat]) (Jd p) h.prf _ kv _ _ W.heap.size W (a5.out W (F3.go hW).b) (Bj _) ((aW.out.below (hW.mono (Bh hK F3.b.size))).mono (Bh hK (F3.go hW).b.size)) hk (aZ.out.below hW).now ((ar.out W (F3.go hW).b).mono (Bh hK (F3.go hW).b.size)) ak.out (Qhw (by decide) (by omega) (by omega)) (by rw [Qb5];decide) bO.out ad.out)
  have HF:=hid F3;clear F3;apply QC (by kernel_rfl) (fun W hb=>And.intro (HF.out.go hb).r0.cell (And.intro (HF.out.go hb).r1.cell (And.intro (HF.out.go hb).r2.cell (HF.out.go hb).r4.cell))) (by kernel_rfl)
  ·intro σ;simp [Qj];exact rfl
  iterate 10 (apply RK.val rfl;· intro σ W hb hc ⟨hd,hu⟩;simp at hd hu;go_simp;exact rfl)
  apply RK.callG (ByB (Jr QhA [p.src.toNat,p.seq.toNat])) (ByB.stay _) rfl
  ·intro σ W hb hc ⟨hd,hu⟩;simp at hd hu;exact ⟨_,_,by go_simp,(an.out W hb).mono fun e w' ⟨v,h1,h2,h3⟩=>⟨v,h1,h3,.of h2.bytes⟩⟩
  iterate 3 (apply RK.val rfl;· intro σ W hb hc ⟨hd,hu⟩;simp at hd hu;go_simp;exact rfl)
  apply RK.callG _ (Yr.eq (Bb z)) rfl
  ·intro σ W hb hc ⟨hd,hu⟩;simp at hd hu
   have HD:=hid (ao.out W _ hb (ByB.bytes hd.2.2.2.1));exact ⟨_,_,by go_simp,HD.out.mono fun e w' ⟨h1,h2⟩=>⟨_,h1,h2,rfl⟩⟩
  iterate 1 (apply RK.val rfl;· intro σ W hb hc ⟨hd,hu⟩;simp at hd hu;go_simp;exact rfl)
  intro σ w4 aO _ hF;simp [Jm] at hF;go_simp;clear hF;have F4:=HF.out.go aO;have aT:=hid (aZ.out.below aO);have hsz4:=aO.size;clear aO HF an ao aZ aW ad ak au ar
  by_cases hz:z=0
  ·have aM:=hid (aL.out.trans hz)
   rw [hz];clear hz aL
   go_wp2_with (refine F4.load 0 rfl Qa ?_)
   refine (ah.out w4 F4.b (QF ay.out)).mono ?_;rintro e w5 ⟨aP,p1,d1,p2,d2,p3,d3,p4,d4,p5,d5,p6,d6,p7,d7,rfl,A⟩;have F5:=F4.go aP;have hg3:=F2.r3.lt;have hsz5:=aP.size;have ap:=hid (A.wide (Z':=fun b=>b<N∨w2.heap.size≤b) (fun b _ hb=>hb.imp id (fun h=>by omega)))
   have aU:=hid (aT.out.below aP);clear A aP ah aT
   go_upto_region 9 with (refine F5.store 0 rfl Qa (by simp) ?_;intro w6 F6 O6)
   have I:=hid (ap.out.only O6 (by omega))
   have Y:=hid (show QM (fun b=>w2.heap.size≤b∧b<w3.heap.size) w6 _ from aU.out.on O6.below fun b hF=>O6.same b (by have:=hF.1;omega))
   have hsz6:=O6.size;clear O6 F5 ap aU F4;have D:=QD ay.out;have bQ:=hid D.got.2;have ax:=hid D.acks.2;clear D;have O:∀ g∈[w.heap.size,w.heap.size+1,w.heap.size+1+1,w.heap.size+1+1+1,w1.heap.size],g<w4.heap.size:=fun g hg=>Br (bG g hg) (by omega)
   have ko:=F6.r4.k11.2.1;have k5:=F6.r0.k10.2.2.2.2.2.1;have k7:=F6.r0.k10.2.2.2.2.2.2.2.1;have z7:=F6.r0.frozen 7;obtain ⟨m0,m1,m2,m3,m4⟩:=F6.r1.k5
   cases ho:c.ordered with
   | true =>
    rw [ho] at ko;have a4:=hid ho;clear ho;obtain ⟨g,bZ,bY,hgl,bD,bE⟩:=Qf.at I.out.chans (r:=Qr c) (i:=j) (by rw [Bt,HJ.out];rfl)
    subst bZ;have f5:=bD 5 _ rfl;have z5:=bE (j*7+5);have aG:=am.out;rw [aG] at m1;have hlt:(j:Int)<(s.chans.length:Int):=by have:=(Bm.1 HJ.out).1;omega
    have b3:IntKind.i64.wrap (c.recv+1)=c.recv+1:=by have:=bS.out;rw [Ce];omega
    have aH:=Qf.putCell I.out.chans (i:=j) (j:=5) (x:=Bb (c.recv+1)) (r:=Qr c) (by rw [Bt,HJ.out];rfl) (by decide) rfl
    have hput':Jy 86 Qr 7 (w6.setCell ⟨g,j*7+5,none⟩ (Bb (c.recv+1))) w4.heap.size (.slice (some ⟨g,0,none⟩) s.chans.length d3) (s.chans.set j c.recv1):=by
     have e:(s.chans.map Qr).set j ((Qr c).set 5 (Bb (c.recv+1)))=(s.chans.set j c.recv1).map Qr:=by rw [De];rfl
     rw [e] at aH;exact aH
    have S:w6.grownBy (w6.setCell ⟨g,j*7+5,none⟩ (Bb (c.recv+1))) (some g):=Q3 w6 g (j*7+5) [Bb (c.recv+1)];have aA:=hid (I.out.putChans S hput' (fun b e=>.inl e) (fun b e=>.inr (by have:=(Qf.own hput' b e).1;omega)))
    have bH:∀ q∈[w.heap.size,w.heap.size+1,w.heap.size+1+1,w.heap.size+1+1+1,w1.heap.size],q<g:=fun q hq=>Br (O q hq) bY
    have F7:=F6.past (w2:=w6.setCell ⟨g,j*7+5,none⟩ (Bb (c.recv+1))) ((Bi g _).setCell (Bj g) _) (by have:=bH _ (.head _);omega) bH
    obtain ⟨w7,aS⟩:∃ w7,w6.setCell ⟨g,j*7+5,none⟩ (Bb (c.recv+1))=w7:=⟨_,rfl⟩;have bJ:w7.heap.size=w6.heap.size:=by rw [← aS];simp [World.setCell]
    rw [aS] at aA F7;have bR:=hid aS;clear aS aH hput' bD bE I Y S aG
    go_upto_region 12 with fail
    refine Qab bR.out ?_;clear f5 z5 k5 k7 z7 m0 m1 m2 m3 m4 F6 b3 ko
    have bN:=hid (show ({ s with chans:=s.chans.set j c.recv1 }:St)=QbS s p.dst c.recv1 by unfold QbS;rw [am.out];rfl)
    have aB:=hid (aA.out.add (X:=noX) (fun _=>False) ⟨fun _ h=>h.elim,fun _ _ _=>trivial⟩ (fun _ h=>h.elim) (fun _ h=>h.elim))
    go_upto_region 12 with fail
    refine QoR (hid F7.r0) (hid F7.r1) (dig:=sha ack) (fun W hW=>?sum)
     (fun v W=>Fr w F7.list W∧Qu (fun b=>b<N∨w2.heap.size≤b) w4.heap.size W { ({ s with chans:=s.chans.set j c.recv1 }:St) with acks:=QX s.acks ⟨p.dst,p.seq,sha ack⟩ } noX (.slice p1 s.clients.length d1) (.slice p2 s.conns.length d2) (.slice (some ⟨g,0,none⟩) s.chans.length d3) (.slice p4 s.sent.length d4) (.slice p5 s.got.length d5) v (.slice p7 s.purses.length d7)∧∃ o n c,v=.slice o n c)
     ?post (fun W aK aD hW ho=>?wth) _ (hid ?_)
    case post=>exact fun v W h=>⟨h.1.r0,h.2.2⟩
    case sum =>
     refine (QgH ack _ K W (Bh hK (F7.go hW).b.size) (ae.out W (F7.go hW).b) (a5.out W (F7.go hW).b) (by omega)).mono ?_
     rintro e w' ⟨x,rfl,ho,hb⟩;obtain ⟨ox,cx,rfl,-⟩:=ho.shape;rw [QQ] at ho ⊢;exact ⟨ox,cx,rfl,ho,hb⟩
    case wth =>
     have C:=aB.out.own;have hX:=(aB.out.below hW).add (X:=fun w2=>Bytes w2 w2.heap.size (.slice aK 32 aD) (sha ack)) (fun b=>w7.heap.size≤b∧b<W.heap.size) ho.held (fun b hF=>.inr (by have:=hF.1;omega)) (fun b hF i e=>by have:=(C i b e).2;have:=hF.1;omega)
     refine (QiY (sha ack) aK 32 aD hX (by omega) (by have:=hW.size;omega) ax.out (show s.acks.length≤1000 by omega) p.dst p.seq).mono ?_
     rintro e w' ⟨v',rfl,hg,A⟩;refine ⟨v',rfl,(F7.go hW).grown hg fun b e=>⟨?_,fun g aF=>?_⟩,(A.add (X:=noX) (fun _=>False) ⟨fun _ h=>h.elim,fun _ _ _=>trivial⟩ (fun _ h=>h.elim) (fun _ h=>h.elim)),?_⟩
     ·have:=(C 6 b e).1;omega
     ·have:=O g aF
      have:=(C 6 b e).1;omega
     ·obtain ⟨o,cp,h,-⟩:=A.mem.acks.shape
      exact ⟨_,_,_,h⟩
    intro σ W9 ⟨FW,A,o,n,cc,aJ⟩
    dsimp only [FrB.list] at FW
    have G:=FW.set1 0 8 (σ 9) rfl;have aC:=(JH.refl w.heap.size W9).cell 8 (σ 9);have E:=hid (A.only aC (by omega))
    rw [aJ] at G E ⊢;clear aC A FW aJ;generalize W9.setCell ⟨w.heap.size,8,none⟩ (.slice o n cc)=b4 at *
    go_wp2_with (first | refine G.load 0 rfl Qa ?_ | (refine G.store 3 rfl Qa (by simp) ?_;intro b5 T a6))
    refine Ql results94 rfl T.r3 Qa rfl ⟨T.b,_,by rw [aM.out];rfl,?_⟩
    have S:Qge s p ack z={ ({ s with chans:=s.chans.set j c.recv1 }:St) with acks:=QX s.acks ⟨p.dst,p.seq,sha ack⟩ }:=by
     unfold Qge;rw [if_pos aM.out];unfold QcE;rw [af.out,if_pos a4.out,← bN.out]
     first | done | rfl
    rw [S];exact (E.out.only a6 (by omega)).holds (fun b hb=>hb.imp id (fun h=>by omega))
   | false =>
    rw [ho] at ko;have a4:=hid ho;clear ho;have C:=I.out.own;have az:=hid (I.out.add (X:=fun w2=>Bytes w2 w2.heap.size (.slice od 32 cd) (Jd p)) (fun b=>w2.heap.size≤b∧b<w3.heap.size) Y.out (fun b hF=>.inr hF.1) (fun b hF i e=>by have:=(C i b e).1;have:=hF.2;omega))
    go_wp2_with fail
    refine (QrL (Jd p) od 32 cd az.out (by omega) (by omega) bQ.out (by omega) p.dst p.seq).mono ?_
    rintro e w7 ⟨v5,rfl,ab,L⟩;obtain ⟨og,cg,bL,-⟩:=L.mem.got.shape
    generalize (({ s with got:=QX s.got ⟨p.dst,p.seq,Jd p⟩ }:St).got).length=ngot at bL
    subst bL;have F7:=F6.grown ab fun b e=>⟨by have:=(C 5 b e).1;omega,fun g aF=>by have:=O g aF;have:=(C 5 b e).1;omega⟩
    have aA:=hid L;have bJ:=ab.size;clear ab L az I Y k5 k7 z7 m0 m1 m2 m3 m4 F6 ko C;have k7:=F7.r0.k10.2.2.2.2.2.2.2.1;have z7:=F7.r0.frozen 7
    go_upto_region 12 with fail
    refine F7.cell 0 rfl ?_;intro w8 F8 O8;have bP:=hid (aA.out.only O8 (by omega))
    have hsz8:=O8.size;clear k7 z7 O8 F7 aA;have aB:=hid (bP.out.add (X:=noX) (fun _=>False) ⟨fun _ h=>h.elim,fun _ _ _=>trivial⟩ (fun _ h=>h.elim) (fun _ h=>h.elim))
    refine QoR (hid F8.r0) (hid F8.r1) (dig:=sha ack) (fun W hW=>?sum)
     (fun v W=>Fr w F8.list W∧Qu (fun b=>b<N∨w2.heap.size≤b) w4.heap.size W { ({ s with got:=QX s.got ⟨p.dst,p.seq,Jd p⟩ }:St) with acks:=QX s.acks ⟨p.dst,p.seq,sha ack⟩ } noX (.slice p1 s.clients.length d1) (.slice p2 s.conns.length d2) (.slice p3 s.chans.length d3) (.slice p4 s.sent.length d4) (.slice og ngot cg) v (.slice p7 s.purses.length d7)∧∃ o n c,v=.slice o n c)
     ?post (fun W aK aD hW ho=>?wth) _ (hid ?_)
    case post=>exact fun v W h=>⟨h.1.r0,h.2.2⟩
    case sum =>
     refine (QgH ack _ K W (Bh hK (F8.go hW).b.size) (ae.out W (F8.go hW).b) (a5.out W (F8.go hW).b) (by omega)).mono ?_
     rintro e w' ⟨x,rfl,ho,hb⟩;obtain ⟨ox,cx,rfl,-⟩:=ho.shape;rw [QQ] at ho ⊢;exact ⟨ox,cx,rfl,ho,hb⟩
    case wth =>
     have C:=aB.out.own;have hX:=(aB.out.below hW).add (X:=fun w2=>Bytes w2 w2.heap.size (.slice aK 32 aD) (sha ack)) (fun b=>w8.heap.size≤b∧b<W.heap.size) ho.held (fun b hF=>.inr (by have:=hF.1;omega)) (fun b hF i e=>by have:=(C i b e).2;have:=hF.1;omega)
     refine (QiY (sha ack) aK 32 aD hX (by omega) (by have:=hW.size;omega) ax.out (show s.acks.length≤1000 by omega) p.dst p.seq).mono ?_
     rintro e w' ⟨v',rfl,hg,A⟩;refine ⟨v',rfl,(F8.go hW).grown hg fun b e=>⟨?_,fun g aF=>?_⟩,(A.add (X:=noX) (fun _=>False) ⟨fun _ h=>h.elim,fun _ _ _=>trivial⟩ (fun _ h=>h.elim) (fun _ h=>h.elim)),?_⟩
     ·have:=(C 6 b e).1;omega
     ·have:=O g aF
      have:=(C 6 b e).1;omega
     ·obtain ⟨o,cp,h,-⟩:=A.mem.acks.shape
      exact ⟨_,_,_,h⟩
    intro σ W9 ⟨FW,A,o,n,cc,aJ⟩
    dsimp only [FrB.list] at FW
    have G:=FW.set1 0 8 (σ 9) rfl;have aC:=(JH.refl w.heap.size W9).cell 8 (σ 9);have E:=hid (A.only aC (by omega))
    rw [aJ] at G E ⊢;clear aC A FW aJ;generalize W9.setCell ⟨w.heap.size,8,none⟩ (.slice o n cc)=b4 at *
    go_wp2_with (first | refine G.load 0 rfl Qa ?_ | (refine G.store 3 rfl Qa (by simp) ?_;intro b5 T a6))
    refine Ql results94 rfl T.r3 Qa rfl ⟨T.b,_,by rw [aM.out];rfl,?_⟩
    have S:Qge s p ack z={ ({ s with got:=QX s.got ⟨p.dst,p.seq,Jd p⟩ }:St) with acks:=QX s.acks ⟨p.dst,p.seq,sha ack⟩ }:=by
     unfold Qge;rw [if_pos aM.out];unfold QcE;rw [af.out,if_neg (by simp [a4.out])]
     first | done | rfl
    rw [S];exact (E.out.only a6 (by omega)).holds (fun b hb=>hb.imp id (fun h=>by omega))
  ·have HL:=hid aL.out
   have a3:=hid (show Qay s p ack.length z≠0 by rw [aL.out];exact hz)
   have e0:(z != 0)=true:=by simpa using hz
   clear hz
   go_wp2_with (refine F4.store 3 rfl Qa (by simp) ?_;intro wz FZ OZ)
   refine Ql results94 rfl FZ.r3 Qa rfl ⟨FZ.b,_,by rw [HL.out];rfl,?_⟩
   rw [Qmf a3.out];exact Qg _ _ _
 ·have HL:=hid (HE.out.trans (if_pos hz))
  have a3:=hid (show Qay s p ack.length z≠0 by rw [HL.out];exact hz)
  have e0:(YT s p ack.length != 0)=true:=by simpa using hz
  clear hz
  go_wp2_with (refine F2.store 3 rfl Qa (by simp) ?_;intro wz FZ OZ)
  refine Ql results94 rfl FZ.r3 Qa rfl ⟨FZ.b,_,by rw [HL.out];rfl,?_⟩
  rw [Qmf a3.out];exact Qg _ _ _
theorem Qpm (s:St) (p:Pk):(Qi8 s.purses p=0)=(QcS s p=true):=by
 unfold Qi8 QcS
 by_cases h:Jj p.data=0
 ·cases hs:ZR (QS p.data).reader <;> simp [h]
 ·simp [h]
theorem Qlm {l:List Pu} {other:Int} {t:Tr} (hr:Q1 l) (hl:l.length≤60) (ht:t.amount<18446744073709551616) (h:Qbx l ch other t=0):Q1 (Qb4 l ch other t)∧(Qb4 l ch other t).length≤60:=by
 unfold Qbx at h;unfold Qb4
 split at h
 ·rename_i hc
  rw [if_pos hc];exact ⟨(Qbp hr hl ht h).right,(Qbp hr hl ht h).len⟩
 ·rename_i hc
  rw [if_neg hc];exact ⟨(QeY hr hl ht h).1.right,(QeY hr hl ht h).1.len⟩
theorem StB.purses {x z:Value} {l:List Pu} (h:StB w N (.agg #[x,v,z,v1,v2,v3,v4,v5,v6,v7]) s):StB w N (.agg #[x,v,z,v1,v2,v3,v4,v5,v6,sv]) { s with purses:=l }:=by
 obtain ⟨x,v,z,v1,v2,v3,v4,v5,v6,v7,e,hm⟩:=h;simp only [BX,BP,BM,BQ] at e;obtain ⟨rfl,rfl,rfl,rfl,rfl,rfl,rfl,rfl,rfl,rfl⟩:=e;exact ⟨_,_,_,_,_,_,_,_,_,_,rfl,hm⟩
theorem Qqx (s:St) (m:Ms) (o:Nat→Option Addr) (c:Nat→Nat) (v:Value) (N:Nat) (w:World) (z:Int) (hv:StV w N v s) (hm:MsM w N m o c) (hN:N≤w.heap.size) (C:s.fits) (aC:m.fits) (hi:(-9223372036854775808≤m.pk.dst∧m.pk.dst≤9223372036854775807)∧-9223372036854775808≤m.pk.src∧m.pk.src≤9223372036854775807) (M:Qi w) (D:QL w) (hw:Qd s=0) (hz:QeB s m.pk m.sh z) :
  Calls prog 62 #[v,.agg (msC m o c).toArray] w fun e w'=>Bd w w'∧∃ v',e=.returned (.tuple #[v',Bb (Qqs s m.pk z)])∧Qp N w.heap.size w' v' (Qug s m.pk z):=by
 have hU:=JG hw C;have aF:=fun W (hb:Bd w W) sv (hl:Qt PuR 3 W N sv s.purses)=>Qrm s.purses m.pk sv _ N W (Bh hN hb.size) hl (hm.pk.below (hb.mono hN)) hU aC.2.2.2.2.2.2.1 hi (D.below hb)
 have G:=hid (fun (t:St) (x:BitVec 8) (tv:Value) W g (hb:Bd w W) (ht:StV W W.heap.size tv t) (h6:StB W N tv t) (aR:t.fits) (hr:Row W g 5 [.int .u8 (b8 x)]) (hz:QeB t m.pk m.sh z)=>Qvb t tv _ (.slice (some ⟨g,0,none⟩) 1 1) _ m.pk [x] m.sh N W.heap.size W z ht h6 ((hm.pk.below (hb.mono hN)).mono (Bh hN hb.size)) (.inr (.inr ⟨g,0,1,rfl,Bj _,fun i hi=>⟨hr.lt,by
  have:i=0:=by simp at hi;omega
  subst this
  exact hr.cell 0⟩⟩)) ((hm.sh.below (hb.mono hN)).mono (Bh hN hb.size)) (Bh hN hb.size) (Bj _) aR aC.2.2.2.2.1 (by simp) (M.past hb) (D.below hb) hz)
 have aB:=fun h=>Qlm (ch:=m.pk.dst) (other:=m.pk.src) (t:=QS m.pk.data) hU.2 hU.1 (Zs m.pk.data).1 h
 have E:=Qpm s m.pk
 have Y:=hid (fun (h:QcS s m.pk=true)=>show Qbx s.purses m.pk.dst m.pk.src (QS m.pk.data)=0 by
  unfold QcS at h;simp at h
  exact h.2.2)
 have HE:=hid (show Qqs s m.pk z=Qay (Qae s m.pk) m.pk 1 z from rfl);have aJ:=hid (show Qug s m.pk z=Qge (Qae s m.pk) m.pk (Qk9 s m.pk) z from rfl)
 have HQ:Qae s m.pk=if QcS s m.pk=true then { s with purses:=Qb4 s.purses m.pk.dst m.pk.src (QS m.pk.data) } else s:=rfl
 have HA:Qk9 s m.pk=if QcS s m.pk=true then [49] else [48]:=rfl
 have HV:=fun W (hb:Bd w W)=>hv.below (hb.mono hN)
 have aH:=hid C;have HZ:=hid hz;obtain ⟨o1,c1,o2,c2,o3,c3,o4,c4,o5,c5,o6,c6,o7,c7,rfl,I⟩:=hv.open;have aI:=fun W (hb:Bd w W)=>(I.below (hb.mono hN)).purses
 clear hv hm I C aC M D hz hw hU hi;generalize aQ:s.purses.length=n7 at *;generalize s.clients.length=n1,s.conns.length=n2,s.chans.length=n3,s.sent.length=n4,s.got.length=n5,s.acks.length=n6 at *;clear aQ
 go_in
 go_upto_region 1 with fail
 refine JP ?_;intro w0 F0 hs;clear hs;have k9:=F0.r0.k10.2.2.2.2.2.2.2.2.2
 go_wp2_with (refine F0.loadMid 1 56 [Bb m.pk.src,Bb m.pk.dst,Bb m.pk.seq,.slice (o 23) m.pk.data.length (c 23),Bb m.pk.tmo] rfl rfl rfl rfl rfl Qh ?_)
 refine (aF _ F0.b _ (aI _ F0.b)).mono ?_;rintro e w1 ⟨aN,uv,rfl,hu,ou,nu,cu,rfl⟩;have F1:=F0.go aN;have HU:=hid hu;have l0:=F0.r0.lt;clear aN hu aF aI F0 k9;generalize aP:Qi8 s.purses m.pk=cn at *;clear aP
 by_cases hz:cn=0
 ·subst hz
  have HT:=hid (E.mp rfl);have aL:=HU.out rfl;have aG:=Y.out HT.out;have aD:=aB aG;have q:=hid (HQ.trans (if_pos HT.out));have O:=hid (HA.trans (if_pos HT.out));have aO:=hid (Qc8 aH.out aD.1 aD.2);generalize Qb4 s.purses m.pk.dst m.pk.src (QS m.pk.data)=L at *;clear aD HU E aB Y HQ HA aG;have k9:=F1.r0.k10.2.2.2.2.2.2.2.2.2;have z9:=F1.r0.frozen 9
  go_upto_region 5 with fail
  refine F1.cell 0 rfl ?_;intro w2 F2 O2;have aM:=hid (aL.only O2 l0);clear k9 z9 O2 aL F1
  go_wp2_with (first | refine F2.load 0 rfl Qa ?_ | refine F2.loadMid 1 56 [Bb m.pk.src,Bb m.pk.dst,Bb m.pk.seq,.slice (o 23) m.pk.data.length (c 23),Bb m.pk.tmo] rfl rfl rfl rfl rfl Qh ?_ | refine (F2.addAt (t:=5) (cs:=[.int .u8 49]) rfl).loadMid 1 32 [Bb m.sh.height,Bb m.sh.prf.index,Bb m.sh.prf.size,.slice (o 14) m.sh.prf.key.length (c 14),.slice (o 15) m.sh.prf.val.length (c 15),.slice (o 16) m.sh.prf.path.length (c 16),.bool m.sh.gap.hasL,.bool m.sh.gap.hasR,Bb m.sh.gap.left.index,Bb m.sh.gap.left.size,.slice (o 17) m.sh.gap.left.key.length (c 17),.slice (o 18) m.sh.gap.left.val.length (c 18),.slice (o 19) m.sh.gap.left.path.length (c 19),Bb m.sh.gap.right.index,Bb m.sh.gap.right.size,.slice (o 20) m.sh.gap.right.key.length (c 20),.slice (o 21) m.sh.gap.right.val.length (c 21),.slice (o 22) m.sh.gap.right.path.length (c 22)] rfl rfl rfl rfl rfl QN ?_)
  refine QbZ ?_;intro wl hl j;have F3:=F2.go j
  have aK:=hid (show StV wl wl.heap.size (.agg #[.string s.name,Bb s.height,Bb s.time,.slice o1 n1 c1,.slice o2 n2 c2,.slice o3 n3 c3,.slice o4 n4 c4,.slice o5 n5 c5,.slice o6 n6 c6,.slice ou nu cu]) { s with purses:=L } by
   obtain ⟨u1,u2,u3,u4,u5,u6,u7,e,I⟩:=HV wl F3.b;simp only [BX,BP,BM,BQ] at e;obtain ⟨-,-,-,rfl,rfl,rfl,rfl,rfl,rfl,rfl⟩:=e
   exact ⟨_,_,_,_,_,_,_,rfl,Qcn I (Bh hN F3.b.size) (aM.out.past j).now⟩)
  refine (G.out { s with purses:=L } 49 _ _ _ F3.b aK.out (StB.of (HV wl F3.b)).purses aO.out hl HZ.out).mono ?_
  rintro e w4 ⟨A,v4,rfl,d⟩;have F4:=F3.go A;have aA:=hid d;have S:=hid F3.b.size;have aE:=F3.r2.lt;obtain ⟨e1,f1,g1,e2,f2,g2,e3,f3,g3,e4,f4,g4,e5,f5,g5,e6,f6,g6,e7,f7,g7,rfl⟩:=d.open
  have T:=hid (show Qqs s m.pk z=Qay { s with purses:=L } m.pk ([49]:Bg).length z by rw [HE.out,q.out];rfl)
  generalize Qay { s with purses:=L } m.pk ([49]:Bg).length z=re at *
  clear A d hl j F2 F3 G aK aM
  go_wp2_with (refine F4.store 2 rfl Qa (by simp) ?_;intro w6 F6 O6)
  refine Ql results62 rfl F6.r2 Qa rfl ⟨F6.b,_,by rw [T.out];rfl,?_⟩
  rw [aJ.out,q.out,O.out];exact (aA.out.only O6 (by omega) aE).lower S.out
 ·have hzb:(cn != 0)=true:=by simpa using hz
  have HT:=hid (show ¬ QcS s m.pk=true from fun h=>hz (E.mpr h))
  have q:=hid (HQ.trans (if_neg HT.out));have O:=hid (HA.trans (if_neg HT.out));clear hz HU E aB Y HQ HA
  go_wp2_with (first | refine F1.load 0 rfl Qa ?_ | refine F1.loadMid 1 56 [Bb m.pk.src,Bb m.pk.dst,Bb m.pk.seq,.slice (o 23) m.pk.data.length (c 23),Bb m.pk.tmo] rfl rfl rfl rfl rfl Qh ?_ | refine (F1.addAt (t:=5) (cs:=[.int .u8 48]) rfl).loadMid 1 32 [Bb m.sh.height,Bb m.sh.prf.index,Bb m.sh.prf.size,.slice (o 14) m.sh.prf.key.length (c 14),.slice (o 15) m.sh.prf.val.length (c 15),.slice (o 16) m.sh.prf.path.length (c 16),.bool m.sh.gap.hasL,.bool m.sh.gap.hasR,Bb m.sh.gap.left.index,Bb m.sh.gap.left.size,.slice (o 17) m.sh.gap.left.key.length (c 17),.slice (o 18) m.sh.gap.left.val.length (c 18),.slice (o 19) m.sh.gap.left.path.length (c 19),Bb m.sh.gap.right.index,Bb m.sh.gap.right.size,.slice (o 20) m.sh.gap.right.key.length (c 20),.slice (o 21) m.sh.gap.right.val.length (c 21),.slice (o 22) m.sh.gap.right.path.length (c 22)] rfl rfl rfl rfl rfl QN ?_)
  refine QbZ ?_;intro wl hl j;have F3:=F1.go j;refine (G.out s 48 _ _ _ F3.b ((HV wl F3.b).mono (Bh hN F3.b.size)) (StB.of (HV wl F3.b)) aH.out hl HZ.out).mono ?_;rintro e w4 ⟨A,v4,rfl,d⟩;have F4:=F3.go A;have aA:=hid d;have S:=hid F3.b.size;have aE:=F3.r2.lt;obtain ⟨e1,f1,g1,e2,f2,g2,e3,f3,g3,e4,f4,g4,e5,f5,g5,e6,f6,g6,e7,f7,g7,rfl⟩:=d.open;have T:=hid (show Qqs s m.pk z=Qay s m.pk ([48]:Bg).length z by rw [HE.out,q.out];rfl)
  generalize Qay s m.pk ([48]:Bg).length z=re at *;clear A d hl j F1 F3 G
  go_wp2_with (refine F4.store 2 rfl Qa (by simp) ?_;intro w6 F6 O6)
  refine Ql results62 rfl F6.r2 Qa rfl ⟨F6.b,_,by rw [T.out];rfl,?_⟩
  rw [aJ.out,q.out,O.out];exact (aA.out.only O6 (by omega) aE).lower S.out
end Go.Proofs.YtnedafiokmjkkaaGreatDoor
