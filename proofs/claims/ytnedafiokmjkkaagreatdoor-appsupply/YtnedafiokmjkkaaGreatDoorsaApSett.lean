/- A packet is settled. -/
import Derived.Test.YtnedafiokmjkkaaGreatDoorsaApRecv
namespace Go.Proofs.YtnedafiokmjkkaaGreatDoor
open Tryz
set_option maxRecDepth 1000000
set_option maxHeartbeats 8000000
open Go.RowKit
variable {w:World} {N n:Nat} {v:Value} {s:St} {p:Pk}
theorem QmN (l m:Bg) (sa sb:Value) (Na Nb:Nat) (w:World) (ha:Bytes w Na sa l) (hb:Bytes w Nb sb m) (hlen:l.length<2305843009213693952) (C:m.length<2305843009213693952) :
  Calls prog 96 #[sa,sb] w fun e w'=>e=.returned (.bool (decide (l=m)))∧∃ n,w'=w.drewN n:=by
 obtain ⟨oa,ca,rfl,hca⟩:=ha.shape;obtain ⟨ob,cb,rfl,E⟩:=hb.shape
 by_cases j:l.length=m.length
 ·have HA:=hid ha
  have HB:=hid hb;clear ha hb;rw [← j] at HB E C ⊢;have HE:=hid j;clear j;generalize hn:l.length=n at *;have HN:=hid hn;clear hn;have G:((n:Int) != (n:Int))=false:=by simp
  go_in
  go_wp2_with fail
  go_loopw [13] (fun i wr=>∃ k q:Nat,k≤n∧i=Bb k∧wr=w.drewN q∧Hid (l.take k=m.take k)) (fun i _=>n-(intOf i).toNat)
  case atStart=>exact ⟨0,0,by omega,rfl,rfl,rfl⟩
  case round =>
   obtain ⟨k,q,hk,rfl,rfl,HT⟩:=hrel
   by_cases b:k<n
   ·have h1:Bytes w Na (.slice oa l.length ca) l:=by rw [HN.out];exact HA.out
    have h2:Bytes w Nb (.slice ob m.length cb) m:=by rw [← HE.out];exact HB.out
    obtain ⟨b1,o1,rfl,c1⟩:=h1.some (by rw [HN.out];omega)
    obtain ⟨b2,o2,rfl,c2⟩:=h2.some (by rw [← HE.out];omega)
    have d1:=(c1 k (by rw [HN.out];exact b)).2
    have d2:=(c2 k (by rw [← HE.out];exact b)).2
    obtain ⟨x,hx⟩:∃ x,l.getD k 0=x:=⟨_,rfl⟩;obtain ⟨y,hy⟩:∃ y,m.getD k 0=y:=⟨_,rfl⟩;rw [hx] at d1;rw [hy] at d2;have HX:=hid hx;have HY:=hid hy;clear h1 h2 c1 c2 hx hy;have hlt':(k:Int)<(n:Int):=by omega
    by_cases z:x=y
    ·subst z
     have I:(b8 x != b8 x)=false:=by simp
     go_wp2_with fail
     refine Yy (by kernel_rfl) (by kernel_rfl) ?_
     repeat still_step
     refine Cm ?_;go_wp2;go_roundw
     case rel=>exact ⟨k+1,q+1,by omega,by go_num,rfl,Qk7 l m k (by rw [HN.out];exact b) (by rw [← HE.out];exact b) HT.out (HX.out.trans HY.out.symm)⟩
     case measure=>simp [intOf];omega
    ·have I:(b8 x != b8 y)=true:=by
      simp only [bne_iff_ne,ne_eq];intro h;exact z (Qu9 h)
     have A:=hid (show decide (l=m)=false by
      apply BD;rintro rfl
      exact z (HX.out.symm.trans HY.out))
     clear z
     go_wp2_with fail
     refine Yy (by kernel_rfl) (by kernel_rfl) ?_
     repeat still_step
     refine Cm ?_;go_wp2;go_ret;exact ⟨by rw [A.out];rfl,q+1,rfl⟩
   ·have D:=hid (show decide (l=m)=true by
     apply BB;have:=HT.out
     rwa [BA (by rw [HN.out];omega),BA (by rw [← HE.out];omega)] at this)
    go_wp2;go_ret;exact ⟨by rw [D.out];rfl,q,rfl⟩
 ·have G:((l.length:Int) != (m.length:Int))=true:=by simp;omega
  have A:=hid (show decide (l=m)=false by apply BD;rintro rfl;exact j rfl)
  clear ha hb
  go_in
  go_wp2;go_ret;exact ⟨by rw [A.out];rfl,0,rfl⟩
theorem Qgo (s:St) (p:Pk) (m:Mk) (v pv:Value) (N:Nat) (w:World) (hv:StV w N v s) (hp:PkV w N pv p) (hN:N≤w.heap.size) (D:s.fits) (h0:Qd s=0) (hm:ZP s.sent p.src p.seq=some m) :
  Calls prog 133 #[v,pv] w fun e w'=>Bd w w'∧∃ p1 d1 p2 d2 p3 d3 p4 n4 d4 p5 d5 p6 d6 p7 d7,e=.returned (.agg #[.string s.name,Bb s.height,Bb s.time,.slice p1 s.clients.length d1,.slice p2 s.conns.length d2,.slice p3 s.chans.length d3,.slice p4 n4 d4,.slice p5 s.got.length d5,.slice p6 s.acks.length d6,.slice p7 s.purses.length d7])∧Qu (fun b=>b<N∨w.heap.size≤b) w.heap.size w' { s with sent:=Q0 s.sent p.src p.seq } noX (.slice p1 s.clients.length d1) (.slice p2 s.conns.length d2) (.slice p3 s.chans.length d3) (.slice p4 n4 d4) (.slice p5 s.got.length d5) (.slice p6 s.acks.length d6) (.slice p7 s.purses.length d7):=by
 have aB:=hid (fun W (hx:Bd w W)=>QrE s v N W (hv.below (hx.mono hN)) (Bh hN hx.size) D (QE h0))
 have hR:=QB h0;have hlen:=hR.many.2.2.1;have aF:=hid hR.sent.2;obtain ⟨Y,-,aA⟩:=Qe9 (x:=⟨p.src,p.seq,[]⟩) aF.out hm;simp only at Y aA;have aL:=hid Y;have aN:=hid aA;have aM:=hid (show (ZP s.sent p.src p.seq).isSome=true by rw [hm];rfl)
 obtain ⟨o1,c1,o2,c2,o3,c3,o4,c4,o5,c5,o6,c6,o7,c7,rfl,aP⟩:=hv.open;obtain ⟨odd,cdd,rfl,hd⟩:=hp.open;clear hv aP hp hd D h0 hR hm Y aA
 go_in
 go_upto_region 1 with fail
 refine JR ?_;intro w0 F0 aQ
 go_wp2_with (refine F0.load 0 rfl Qa ?_)
 refine (aB.out w0 F0.b).mono ?_;rintro e w1 ⟨T,p1,d1,p2,d2,p3,d3,p4,d4,p5,d5,p6,d6,p7,d7,rfl,G⟩;have F1:=F0.go T;have hg0:=F0.r0.lt;have hg1:=F0.r1.lt;have hg2:=F0.r2.lt;have hsz1:=T.size;have aD:=hid G;clear G T aB aQ F0
 go_upto_region 2 with (refine F1.store 0 rfl Qa (by simp) ?_;intro w2 F2 O2)
 have M:=hid (aD.out.only O2 (by omega))
 have hsz2:=O2.size;clear O2 F1 aD;have k6:=F2.r0.k10.2.2.2.2.2.2.1;have z6:=F2.r0.frozen 6;obtain ⟨m0,m1,m2,m3,m4⟩:=F2.r1.k5
 go_wp2_with fail
 refine (Qdz s.sent p.src p.seq _ w2.heap.size w2 (Bj _) M.out.mem.sent aF.out (by omega)).mono ?_
 rintro e w3 ⟨rfl,z⟩;rw [aM.out];have F3:=F2.go z;have O:=hid (M.out.below z);have hsz3:=z.size;clear k6 z6 m0 m1 m2 m3 m4 z F2 M;obtain ⟨rs,L,hE,I⟩:=O.out.putSent;generalize Yh s.sent p.src p.seq=k at *;have aG:k<s.sent.length:=(Bm.1 aL.out).1;have aH:k<rs.length:=by rw [hE.1];exact aG
 have aR:IntKind.i64.wrap ((k:Int)+1)=((k+1:Nat):Int):=by rw [Cd];omega
 have aC:=hid (Qmg rs k w0.heap.size _ w3 L aH (k+1) rfl);have aJ:=hid hE;have C:=hid I;have S:=hid O.out.own;clear L hE I aH;have k6:=F3.r0.k10.2.2.2.2.2.2.1
 go_wp2_with fail
 refine aC.out.mono ?_;rintro e w4 ⟨A,v4,rfl,q,E⟩;have j:=C.out w4 v4 _ (Q0 s.sent p.src p.seq) A q (fun b e=>.inl (by rw [← E];exact e)) (fun b e=>.inr (Qf.own q b e).1) (fun w2 g1 _=>by rw [← aN.out];exact g1.del aG)
 obtain ⟨oq,cq,aI,-⟩:=j.mem.sent.shape
 generalize (({ s with sent:=Q0 s.sent p.src p.seq }:St).sent).length=nq at aI
 subst aI
 have F4:=F3.grown A fun b e=>⟨by have:=(S.out 4 b e).1;omega,fun g aO=>by
  have:=(S.out 4 b e).1;simp at aO
  omega⟩
 have aE:=hid j;have hsz4:=A.size;clear A j q E aC aJ C S k6 F3 O aR;have k6:=F4.r0.k10.2.2.2.2.2.2.1;have z6:=F4.r0.frozen 6
 go_upto_region 5 with fail
 refine F4.cell 0 rfl ?_;intro w5 F5 O5;have aK:=hid (aE.out.only O5 (by omega))
 clear k6 z6 O5 F4 aE
 go_wp2_with (first | refine F5.load 0 rfl Qa ?_ | (refine F5.store 2 rfl Qa (by simp) ?_;intro w6 F6 O6))
 refine Qfe results133 rfl F6.r2 Qa rfl ⟨F6.b,p1,d1,p2,d2,p3,d3,oq,nq,cq,p5,d5,p6,d6,p7,d7,rfl,?_⟩;exact ((aK.out.only O6 (by omega)).lower (by omega)).wide (fun b _ hb=>hb.imp id (fun h=>by omega))
theorem QmO (s:St) (p:Pk) (v pv:Value) (N:Nat) (w:World) (hv:StV w N v s) (hp:PkV w N pv p) (hN:N≤w.heap.size) (G:s.fits) (L:Qi w) :
  Calls prog 131 #[v,pv] w fun e w'=>Bd w w'∧∃ ev,e=.returned (.tuple #[ev,Bb (Jf s p)])∧QeA w' N ev s p.src (Jf s p):=by
 have HE:=hid (show Jf s p=if Qz p≠0 then Qz p else if Jb s p.src [3,4]≠0 then Jb s p.src [3,4] else if (Qv s p.src).ochan≠p.dst then 8 else match ZP s.sent p.src p.seq with
  | none=>6
  | some m=>if m.dig≠Je p then 8 else 0 from rfl)
 have j:=hid (show ∀ (w:World),Jf s p≠0→QeA w N (.agg #[Bb 0,.bool false,Bb 0,Bb 0,Bb 0,Bb 0,Bb 0,.string ⟨#[]⟩,Bb 0,.bool false,Bc]) s p.src (Jf s p) from fun w hz=>⟨fun h=>absurd h hz,fun _=>rfl⟩)
 have aN:=hid (fun W (hx:Bd w W)=>Qes p pv N W (hp.below (hx.mono hN)))
 have aG:=hid (fun W gl (hx:Bd w W) (hr:Row W gl 3 [Bb 3,Bb 4])=>QhS s v N W p.src [3,4] gl 2 (hv.below (hx.mono hN)) (Bh hN hx.size) G hr rfl (by decide))
 have aT:=hid (fun W (hx:Bd w W) (hw:Qz p=0)=>QsE p pv N W (L.past hx) (hp.below (hx.mono hN)) (Bh hN hx.size) hw)
 obtain ⟨o1,c1,o2,c2,o3,c3,o4,c4,o5,c5,o6,c6,o7,c7,rfl,hm⟩:=hv.open;obtain ⟨odd,cdd,rfl,hd⟩:=hp.open;have HM:=hid hm;clear hv hm hp hd G L
 go_in
 go_upto_region 1 with fail
 refine JR ?_;intro w0 F0 aY
 go_wp2_with (refine F0.load 1 rfl Qh ?_)
 refine (aN.out w0 F0.b).mono ?_;rintro e w1 ⟨rfl,aO⟩;have F1:=F0.go aO;clear aO F0 aY aN
 by_cases hz:Qz p=0
 ·have M:=hid (HE.out.trans (if_neg (by simp [hz])))
  have aV:=hid hz;rw [hz];clear hz HE;have m0:=F1.r1.k5.1
  go_wp2_with (refine F1.load 0 rfl Qa ?_)
  refine Qb4 ?_;intro w2 aS S;refine (aG.out w2 _ (F1.go S).b aS).mono ?_;rintro e w3 ⟨aP,ev,rfl,aB⟩;have F3:=(F1.go S).go aP;obtain ⟨y0,y1,y2,y3,y4,y5,y6,y7,y8,y9,y10,A,I⟩:=aB.cells;subst A;have aI:=hid aB;have aL:=hid I;clear aB I aS S aP F1 aG m0
  go_upto_region 5 with (refine F3.storeNew rfl Qj aL.out ?_;intro w4 F4 aQ)
  have D:=hid (aI.out.below (aQ.mono (Bh hN F3.b.size)));clear aI aL aQ F3
  by_cases hz:Jb s p.src [3,4]=0
  ·have O:=hid (M.out.trans (if_neg (by simp [hz])))
   obtain ⟨ka,ma,A,aR⟩:=D.out.1 hz;have hR:=QB (JB hz).1;have hlen:=hR.many.2.2.1;have aM:=hid hR.sent.2;simp only [BW,BN,BL,BO] at A;obtain ⟨rfl,rfl,rfl,rfl,rfl,rfl,rfl,rfl,rfl,rfl,rfl⟩:=A;have aU:=hid (show ∀ (w:World) (ev:Value),Jf s p=0→QdE w N ev (Qv s p.src) (Qbp s p.src)→QeA w N ev s p.src (Jf s p) from fun w ev h1 h2=>⟨fun _=>h2,fun h=>absurd h1 h⟩)
   rw [hz];have aJ:=hid aR;clear hz aR D M hR;generalize Qv s p.src=c at *;generalize Qbp s p.src=f at *;have k3:=F4.r3.k11.2.2.2.1;obtain ⟨m0,m1,m2,m3,m4⟩:=F4.r1.k5;obtain ⟨s0,s1,s2,s3,s4,s5,s6,s7,s8,s9⟩:=F4.r0.k10
   by_cases h1:c.ochan=p.dst
   ·have z:=hid (O.out.trans (if_neg (by simp [h1])))
    have e1:(c.ochan != p.dst)=false:=by simpa using h1
    clear h1 O
    go_wp2_with fail
    refine (Qdz s.sent p.src p.seq _ N w4 (Bh hN F4.b.size) (HM.out.below (F4.b.mono hN)).sent aM.out (by omega)).mono ?_
    rintro e w5 ⟨rfl,T⟩;have F5:=F4.go T;have E:=hid (aJ.out.below (T.mono (Bh hN F4.b.size)));clear k3 m0 m1 m2 m3 m4 s0 s1 s2 s3 s4 s5 s6 s7 s8 s9 e1 T F4 aJ
    cases hm:ZP s.sent p.src p.seq with
    | none =>
     have HL:=hid (show Jf s p=6 by have:=z.out;rw [hm] at this;exact this)
     clear hm z;generalize Yh s.sent p.src p.seq=kk at *
     go_wp2_with (refine F5.store 2 rfl Qj (by simp) ?_;intro wz FZ OZ)
     exact Qk results131 rfl FZ.r2 Qj rfl ⟨FZ.b,_,by rw [HL.out];rfl,j.out _ (by rw [HL.out];decide)⟩
    | some m =>
     have aF:=hid (show Jf s p=if m.dig≠Je p then 8 else 0 by have:=z.out;rw [hm] at this;exact this)
     have C:=(Qe9 (x:=⟨p.src,p.seq,[]⟩) aM.out hm).1;simp only at C;clear hm z;generalize Yh s.sent p.src p.seq=k at *;have hlt:(k:Int)<(s.sent.length:Int):=by have:=(Bm.1 C).1;omega
     obtain ⟨b,g,aX,q⟩:=(HM.out.below (F5.b.mono hN)).sent.spot (by omega)
     subst aX;obtain ⟨hbN,r,⟨dv,rfl,aA⟩,hc⟩:=q k m C;obtain ⟨od,cd,rfl,-⟩:=aA.shape;have c2:=hc 2 _ rfl;have aE:=hid aA;clear C q hc aA
     go_upto_region 12 with fail
     have aD:=hid (fun W (hW:Bd w5 W)=>aT.out W (F5.go hW).b aV.out)
     have aH:=hid (fun W v (hW:Bd w5 W) ho=>YD m.dig (Je p) _ v N W.heap.size W (aE.out.below (hW.mono (Bh hN F5.b.size))) ho)
     have aW:b<w5.heap.size:=by have:=F5.b.size;omega
     have aC:=hid c2;have HF:=hid F5;apply QJ (by kernel_rfl) (fun W hb=>And.intro (HF.out.go hb).r0.cell (And.intro (HF.out.go hb).r1.cell ((hb.cell (p:=⟨b,g+k*3+2,none⟩) aW).trans aC.out))) (by kernel_rfl)
     ·intro σ;simp [Ql];exact rfl
     iterate 7 (apply RK.val rfl;· intro σ W hb hc ⟨hd,hu⟩;simp at hd hu;go_simp;exact rfl)
     apply RK.callG (ByB (Je p)) (ByB.stay _) rfl
     ·intro σ W hb hc ⟨hd,hu⟩;simp at hd hu;exact ⟨_,_,by go_simp,(aD.out W hb).mono fun e w' ⟨v,h1,h2,h3⟩=>⟨v,h1,h3,.of h2.bytes⟩⟩
     apply RK.callG _ (Yq.eq (.bool (decide (m.dig=Je p)))) rfl
     ·intro σ W hb hc ⟨hd,hu⟩;simp at hd hu
      have HD:=hid (aH.out W _ hb (ByB.bytes hd.2));exact ⟨_,_,by go_simp,HD.out.mono fun e w' h=>⟨_,h.1,by first | exact h.2 | (rw [h.2];exact Bi _ _),rfl⟩⟩
     iterate 2 (apply RK.val rfl;· intro σ W hb hc ⟨hd,hu⟩;simp at hd hu;go_simp;exact rfl)
     intro σ w6 Y _ hF;simp [JE] at hF;go_simp;clear hF;have F6:=F5.go Y;have aK:=hid (E.out.below (Y.mono (Bh hN F5.b.size)));clear HF aD aH aC;clear Y c2 aE F5 E
     by_cases h3:m.dig=Je p
     ·have HL:=hid (aF.out.trans (if_neg (by simp [h3])))
      rw [show decide (m.dig=Je p)=true from BB h3];clear h3
      go_wp2_with (first | refine F6.load 3 rfl Qj ?_ | (refine F6.store 2 rfl Qj (by simp) ?_;intro wz FZ OZ))
      exact Qk results131 rfl FZ.r2 Qj rfl ⟨FZ.b,_,by rw [HL.out];rfl,aU.out _ _ HL.out ⟨ka,ma,rfl,aK.out.below (OZ.down (Bi N _) (by omega))⟩⟩
     ·have HL:=hid (aF.out.trans (if_pos h3))
      rw [show decide (m.dig=Je p)=false from BD h3];clear h3
      go_wp2_with (refine F6.store 2 rfl Qj (by simp) ?_;intro wz FZ OZ)
      exact Qk results131 rfl FZ.r2 Qj rfl ⟨FZ.b,_,by rw [HL.out];rfl,j.out _ (by rw [HL.out];decide)⟩
   ·have HL:=hid (O.out.trans (if_pos h1))
    have e1:(c.ochan != p.dst)=true:=by simpa using h1
    clear h1
    go_wp2_with (refine F4.store 2 rfl Qj (by simp) ?_;intro wz FZ OZ)
    exact Qk results131 rfl FZ.r2 Qj rfl ⟨FZ.b,_,by rw [HL.out];rfl,j.out _ (by rw [HL.out];decide)⟩
  ·have HL:=hid (M.out.trans (if_pos hz))
   have e0:(Jb s p.src [3,4] != 0)=true:=by simpa using hz
   have HZ:=hid hz;clear hz
   go_wp2_with (refine F4.store 2 rfl Qj (by simp) ?_;intro wz FZ OZ)
   exact Qk results131 rfl FZ.r2 Qj rfl ⟨FZ.b,_,by rw [HL.out];rfl,j.out _ (by rw [HL.out];exact HZ.out)⟩
 ·have HL:=hid (HE.out.trans (if_pos hz))
  have e0:(Qz p != 0)=true:=by simpa using hz
  have HZ:=hid hz;clear hz
  go_wp2_with (refine F1.store 2 rfl Qj (by simp) ?_;intro wz FZ OZ)
  exact Qk results131 rfl FZ.r2 Qj rfl ⟨FZ.b,_,by rw [HL.out];rfl,j.out _ (by rw [HL.out];exact HZ.out)⟩
theorem ShV.both {h:Sh} (hv:ShV w N v h):∃ q1 e1 q2 e2 q3 e3 r1 s1 r2 s2 r3 s3 r4 s4 r5 s5 r6 s6,
  v=.agg #[Bb h.height,Bb h.prf.index,Bb h.prf.size,.slice q1 h.prf.key.length e1,.slice q2 h.prf.val.length e2,.slice q3 h.prf.path.length e3,.bool h.gap.hasL,.bool h.gap.hasR,Bb h.gap.left.index,Bb h.gap.left.size,.slice r1 h.gap.left.key.length s1,.slice r2 h.gap.left.val.length s2,.slice r3 h.gap.left.path.length s3,Bb h.gap.right.index,Bb h.gap.right.size,.slice r4 h.gap.right.key.length s4,.slice r5 h.gap.right.val.length s5,.slice r6 h.gap.right.path.length s6] ∧
  Qd7 w N (.agg #[Bb h.prf.index,Bb h.prf.size,.slice q1 h.prf.key.length e1,.slice q2 h.prf.val.length e2,.slice q3 h.prf.path.length e3]) h.prf ∧
  GpV w N (.agg #[.bool h.gap.hasL,.bool h.gap.hasR,Bb h.gap.left.index,Bb h.gap.left.size,.slice r1 h.gap.left.key.length s1,.slice r2 h.gap.left.val.length s2,.slice r3 h.gap.left.path.length s3,Bb h.gap.right.index,Bb h.gap.right.size,.slice r4 h.gap.right.key.length s4,.slice r5 h.gap.right.val.length s5,.slice r6 h.gap.right.path.length s6]) h.gap:=by
 obtain ⟨x1,x2,x3,k1,v1,t1,k2,v2,t2,rfl,hp,hq⟩:=hv;have b:=hp;have e:=hq;obtain ⟨a1,a2,a3,ea,b1,b2,b3⟩:=hp;obtain ⟨c1,c2,c3,c4,c5,c6,eb,d1,d2,d3,d4,d5,d6⟩:=hq;simp at ea eb;obtain ⟨rfl,rfl,rfl⟩:=ea;obtain ⟨rfl,rfl,rfl,rfl,rfl,rfl⟩:=eb;obtain ⟨q1,e1,rfl,-⟩:=b1.shape;obtain ⟨q2,e2,rfl,-⟩:=b2.shape;obtain ⟨q3,e3,rfl,-⟩:=b3.shape;obtain ⟨r1,s1,rfl,-⟩:=d1.shape;obtain ⟨r2,s2,rfl,-⟩:=d2.shape;obtain ⟨r3,s3,rfl,-⟩:=d3.shape;obtain ⟨r4,s4,rfl,-⟩:=d4.shape;obtain ⟨r5,s5,rfl,-⟩:=d5.shape;obtain ⟨r6,s6,rfl,-⟩:=d6.shape;exact ⟨_,_,_,_,_,_,_,_,_,_,_,_,_,_,_,_,_,_,rfl,b,e⟩
theorem QrO (s:St) (c:Ch) (f:Cl) (p:Pk) (ack:Bg) (h:Sh) (v ev pv av G:Value) (N:Nat) (w:World) (z:Int) (hv:StV w N v s) (he:QdE w N ev c f) (hp:PkV w N pv p) (ha:Bytes w N av ack) (hh:ShV w N G h) (hN:N≤w.heap.size) (A:f.fits) (D:h.fits) (hal:ack.length≤140737488351232) (j:Qi w) (q:QL w) (hw:Qz p=0) (hz:QU f s.time h.height (fun r=>h.prf.key=Jt QhA [p.dst.toNat,p.seq.toNat]∧h.prf.val=sha ack∧JZ r h.prf) z) :
  Calls prog 132 #[v,ev,pv,av,G] w fun e w'=>e=.returned (Bb (QdP c p ack.length z))∧Bd w w':=by
 have HI:=hid (show QdP c p ack.length z=if decide ((150:Int)<(ack.length:Int))=true then 4 else if (c.ordered && (p.seq != c.ack))=true then 12 else if (c.ordered && decide (1000000000000≤c.ack))=true then 5 else z by unfold QdP;grind)
 obtain ⟨o1,c1,o2,c2,o3,c3,o4,c4,o5,c5,o6,c6,o7,c7,rfl,hm⟩:=hv.open;obtain ⟨ka,ma,rfl,C⟩:=he;obtain ⟨odd,cdd,rfl,O⟩:=hp.open;obtain ⟨q1,e1,q2,e2,q3,e3,r1,s1,r2,s2,r3,s3,r4,s4,r5,s5,r6,s6,rfl,E,S⟩:=hh.both;have T:=Y0 hw;obtain ⟨oa,ca,rfl,-⟩:=ha.shape;have I:=hid (fun W (hx:Bd w W)=>Qm9 p.dst p.seq (by omega) (by omega) W (q.below hx))
 have M:=hid (fun W (hx:Bd w W)=>QgL ack _ N W (Bh hN hx.size) (ha.below (hx.mono hN)) (j.past hx) (by omega))
 have L:=hid (fun W kv vv (hx:Bd w W) h4 h5=>Qbi.z Qe1 f s.time h.height (Jt QhA [p.dst.toNat,p.seq.toNat]) (sha ack) h.prf _ kv vv _ W.heap.size W (j.past hx) (Bj _) ((C.below (hx.mono hN)).mono (Bh hN hx.size)) h4 h5 ((E.below (hx.mono hN)).mono (Bh hN hx.size)) A (Qhy (by decide) (by omega) (by omega)) (by rw [QR];decide) D.1 hz)
 clear hv hm hp O hh E S C A D j q hw hz ha T
 go_in
 go_upto_region 1 with fail
 refine Qan ?_;intro w0 F hs;have k:=F.r1.cell;have m:=F.r2.cell;have HF:=hid F;clear F hs
 cases q1:decide ((150:Int)<(ack.length:Int))
 cases q2:c.ordered
 rotate_left
 cases q3:(p.seq != c.ack)
 cases q4:decide (1000000000000≤c.ack)
 rotate_right
 iterate 2
  replace HI:=hid (HI.out.trans (by simp only [*];rfl))
  go_upto_region 7 with fail
  clear k m;apply QJ (by kernel_rfl) (fun W hb=>And.intro (HF.out.go hb).r0.cell (And.intro (HF.out.go hb).r1.cell (And.intro (HF.out.go hb).r2.cell (HF.out.go hb).r3.cell))) (by kernel_rfl)
  ·intro σ;simp [Ql];exact rfl
  iterate 10 (apply RK.val rfl;· intro σ W hb hc ⟨hd,hu⟩;simp at hd hu;go_simp;exact rfl)
  apply RK.callG (ByB (Jt QhA [p.dst.toNat,p.seq.toNat])) (ByB.stay _) rfl
  ·intro σ W hb hc ⟨hd,hu⟩;simp at hd hu;exact ⟨_,_,by go_simp,(I.out W (HF.out.go hb).b).mono fun e w' ⟨v,h1,h2,h3⟩=>⟨v,h1,h3,.of h2.bytes⟩⟩
  iterate 1 (apply RK.val rfl;· intro σ W hb hc ⟨hd,hu⟩;simp at hd hu;go_simp;exact rfl)
  apply RK.callG (ByB (sha ack)) (ByB.stay _) rfl
  ·intro σ W hb hc ⟨hd,hu⟩;simp at hd hu;exact ⟨_,_,by go_simp,(M.out W (HF.out.go hb).b).mono fun e w' ⟨v,h1,h2,h3⟩=>⟨v,h1,h3,.of h2.bytes⟩⟩
  iterate 2 (apply RK.val rfl;· intro σ W hb hc ⟨hd,hu⟩;simp at hd hu;go_simp;exact rfl)
  apply RK.callG _ (Yq.eq (Bb z)) rfl
  ·intro σ W hb hc ⟨hd,hu⟩;simp at hd hu
   have HD:=hid (L.out W _ _ (HF.out.go hb).b (ByB.bytes hd.2.2.2.1) (ByB.bytes hd.2.2.2.2.1));exact ⟨_,_,by go_simp,HD.out.mono fun e w' ⟨h1,h2⟩=>⟨_,h1,h2,rfl⟩⟩
  iterate 1 (apply RK.val rfl;· intro σ W hb hc ⟨hd,hu⟩;simp at hd hu;go_simp;exact rfl)
  intro σ W hb _ hF;simp [JE] at hF;go_simp;clear hF;have HB:=hid (HF.out.go hb).b;clear hb;go_wp2;go_ret;exact ⟨by rw [HI.out];first | done | rfl,HB.out⟩
 all_goals
  replace HI:=hid (HI.out.trans (by simp only [*];rfl))
  go_wp2;go_ret;exact ⟨by rw [HI.out];first | done | rfl,HF.out.b⟩
theorem Qsa (s:St) (c:Ch) (f:Cl) (p:Pk) (next:Int) (h:Sh) (v ev pv O:Value) (N:Nat) (w:World) (z:Int) (hv:StV w N v s) (he:QdE w N ev c f) (hp:PkV w N pv p) (hh:ShV w N O h) (hN:N≤w.heap.size) (A:f.fits) (D:h.fits) (q:Qi w) (j:QL w) (hw:Qz p=0) (hz:if c.ordered=true then QU f s.time h.height (fun r=>h.prf.key=Jt Qel [p.dst.toNat]∧h.prf.val=ZK [next]∧JZ r h.prf) z else QU f s.time h.height (fun r=>QaG r (Jt QhB [p.dst.toNat,p.seq.toNat]) h.gap) z) :
  Calls prog 135 #[v,ev,pv,Bb next,O] w fun e w'=>e=.returned (Bb (QhD c p next h.height z))∧Bd w w':=by
 have HI:=hid (show QhD c p next h.height z=if decide (h.height<p.tmo)=true then 11 else if (c.ordered && decide (next<1))=true then 12 else if (c.ordered && decide (p.seq<next))=true then 12 else z by unfold QhD;grind)
 obtain ⟨o1,c1,o2,c2,o3,c3,o4,c4,o5,c5,o6,c6,o7,c7,rfl,hm⟩:=hv.open;obtain ⟨ka,ma,rfl,C⟩:=he;obtain ⟨odd,cdd,rfl,aB⟩:=hp.open;obtain ⟨q1,e1,q2,e2,q3,e3,r1,s1,r2,s2,r3,s3,r4,s4,r5,s5,r6,s6,rfl,M,I⟩:=hh.both;have L:=Y0 hw;have T:=hid (fun W (hx:Bd w W)=>QnI p.dst p.seq (by omega) (by omega) W (j.below hx))
 have E:=hid (fun W (hx:Bd w W)=>Qmm p.dst (by omega) W (j.below hx))
 have Y:=hid (fun (ho:c.ordered=true) (hn:0≤next∧next≤1000000000000) W kv vv (hx:Bd w W) h4 h5=>Qbi.z Qe1 f s.time h.height (Jt Qel [p.dst.toNat]) (ZK [next]) h.prf _ kv vv _ W.heap.size W (q.past hx) (Bj _) ((C.below (hx.mono hN)).mono (Bh hN hx.size)) h4 h5 ((M.below (hx.mono hN)).mono (Bh hN hx.size)) A (Qr6 (by decide) (by omega)) (Qqt next hn) D.1 (by rw [if_pos ho] at hz;exact hz))
 have S:=hid (fun (ho:c.ordered=false) W kv (hx:Bd w W) h4=>QeB.z Qsl f s.time h.height (Jt QhB [p.dst.toNat,p.seq.toNat]) h.gap _ kv _ W.heap.size W (q.past hx) (Bj _) ((C.below (hx.mono hN)).mono (Bh hN hx.size)) h4 ((I.below (hx.mono hN)).mono (Bh hN hx.size)) A (Qhy (by decide) (by omega) (by omega)) D.2 (by rw [if_neg (by simp [ho])] at hz;exact hz))
 have aA:=hid L.2.2.1;clear hv hm hp aB hh M I C A D q j hw hz L
 go_in
 go_upto_region 1 with fail
 refine Qan ?_;intro w0 F hs;have k:=F.r1.cell;have m:=F.r2.cell;have n:=F.r3.cell;have HF:=hid F;clear F hs
 cases q1:decide (h.height<p.tmo)
 cases q2:c.ordered
 rotate_left
 cases q3:decide (next<1)
 cases q4:decide (p.seq<next)
 rotate_right
 ·replace HI:=hid (HI.out.trans (by simp only [*];rfl))
  go_upto_region 4 with fail
  clear k m n;apply QJ (by kernel_rfl) (fun W hb=>And.intro (HF.out.go hb).r0.cell (And.intro (HF.out.go hb).r1.cell (And.intro (HF.out.go hb).r2.cell (HF.out.go hb).r3.cell))) (by kernel_rfl)
  ·intro σ;simp [Ql];exact rfl
  iterate 10 (apply RK.val rfl;· intro σ W hb hc ⟨hd,hu⟩;simp at hd hu;go_simp;exact rfl)
  apply RK.callG (ByB (Jt QhB [p.dst.toNat,p.seq.toNat])) (ByB.stay _) rfl
  ·intro σ W hb hc ⟨hd,hu⟩;simp at hd hu;exact ⟨_,_,by go_simp,(T.out W (HF.out.go hb).b).mono fun e w' ⟨v,h1,h2,h3⟩=>⟨v,h1,h3,.of h2.bytes⟩⟩
  iterate 2 (apply RK.val rfl;· intro σ W hb hc ⟨hd,hu⟩;simp at hd hu;go_simp;exact rfl)
  apply RK.callG _ (Yq.eq (Bb z)) rfl
  ·intro σ W hb hc ⟨hd,hu⟩;simp at hd hu
   have HD:=hid (S.out q2 W _ (HF.out.go hb).b (ByB.bytes hd.2.2.2.1));exact ⟨_,_,by go_simp,HD.out.mono fun e w' ⟨h1,h2⟩=>⟨_,h1,h2,rfl⟩⟩
  iterate 1 (apply RK.val rfl;· intro σ W hb hc ⟨hd,hu⟩;simp at hd hu;go_simp;exact rfl)
  intro σ W hb _ hF;simp [JE] at hF;go_simp;clear hF;have HB:=hid (HF.out.go hb).b;clear hb;go_wp2;go_ret;exact ⟨by rw [HI.out];first | done | rfl,HB.out⟩
 ·replace HI:=hid (HI.out.trans (by simp only [*];rfl))
  have G:=hid (show 0≤next∧next≤1000000000000 by have:=aA.out;simp at q3 q4;omega)
  go_upto_region 7 with fail
  clear k m n;apply QJ (by kernel_rfl) (fun W hb=>And.intro (HF.out.go hb).r0.cell (And.intro (HF.out.go hb).r1.cell (And.intro (HF.out.go hb).r2.cell (HF.out.go hb).r3.cell))) (by kernel_rfl)
  ·intro σ;simp [Ql];exact rfl
  iterate 8 (apply RK.val rfl;· intro σ W hb hc ⟨hd,hu⟩;simp at hd hu;go_simp;exact rfl)
  apply RK.callG (ByB (Jt Qel [p.dst.toNat])) (ByB.stay _) rfl
  ·intro σ W hb hc ⟨hd,hu⟩;simp at hd hu;exact ⟨_,_,by go_simp,(E.out W (HF.out.go hb).b).mono fun e w' ⟨v,h1,h2,h3⟩=>⟨v,h1,h3,.of h2.bytes⟩⟩
  iterate 1 (apply RK.val rfl;· intro σ W hb hc ⟨hd,hu⟩;simp at hd hu;go_simp;exact rfl)
  apply RK.callG (ByB (ZK [next])) (ByB.stay _) rfl
  ·intro σ W hb hc ⟨hd,hu⟩;simp at hd hu;exact ⟨_,_,by go_simp,(Qmn next G.out W).mono fun e w' ⟨v,h1,h2,h3⟩=>⟨v,h1,h3,.of h2.bytes⟩⟩
  iterate 2 (apply RK.val rfl;· intro σ W hb hc ⟨hd,hu⟩;simp at hd hu;go_simp;exact rfl)
  apply RK.callG _ (Yq.eq (Bb z)) rfl
  ·intro σ W hb hc ⟨hd,hu⟩;simp at hd hu
   have HD:=hid (Y.out q2 G.out W _ _ (HF.out.go hb).b (ByB.bytes hd.2.2.2.1) (ByB.bytes hd.2.2.2.2.1));exact ⟨_,_,by go_simp,HD.out.mono fun e w' ⟨h1,h2⟩=>⟨_,h1,h2,rfl⟩⟩
  iterate 1 (apply RK.val rfl;· intro σ W hb hc ⟨hd,hu⟩;simp at hd hu;go_simp;exact rfl)
  intro σ W hb _ hF;simp [JE] at hF;go_simp;clear hF;have HB:=hid (HF.out.go hb).b;clear hb;go_wp2;go_ret;exact ⟨by rw [HI.out];first | done | rfl,HB.out⟩
 all_goals
  replace HI:=hid (HI.out.trans (by simp only [*];rfl))
  go_wp2;go_ret;exact ⟨by rw [HI.out];first | done | rfl,HF.out.b⟩
def Qv7 (f:FuncId):Prop:=∀ (s:St) (v pv av hv2:Value) (p:Pk) (ack:Bg) (h:Sh) (N:Nat) (w:World) (z:Int),StV w N v s→PkV w N pv p→Bytes w N av ack→ShV w N hv2 h→N≤w.heap.size→s.fits→h.fits→ack.length≤140737488351232→Qi w→QL w→QgH s p ack h z →
 Calls prog f #[v,pv,av,hv2] w fun e w'=>Bd w w'∧∃ v',e=.returned (.tuple #[v',Bb (Zd s p ack.length z)])∧Qp N w.heap.size w' v' (Ze s p ack.length z)
def QvF (f:FuncId):Prop:=∀ (s:St) (v pv hv2:Value) (p:Pk) (next:Int) (h:Sh) (N:Nat) (w:World) (z:Int),StV w N v s→PkV w N pv p→ShV w N hv2 h→N≤w.heap.size→s.fits→h.fits→Qi w→QL w→Qdt s p next h z →
 Calls prog f #[v,pv,Bb next,hv2] w fun e w'=>Bd w w'∧∃ v',e=.returned (.tuple #[v',Bb (Zx s p next h.height z)])∧Qp N w.heap.size w' v' (Zy s p next h.height z)
theorem Qfj (h:Jf s p=0):Qz p=0∧Jb s p.src [3,4]=0∧(Qv s p.src).ochan=p.dst∧∃ m,ZP s.sent p.src p.seq=some m∧m.dig=Je p:=by
 unfold Jf at h
 split at h
 ·rename_i h1;exact absurd h h1
 rename_i h1
 split at h
 ·rename_i h2;exact absurd h h2
 rename_i h2
 split at h
 ·cases h
 rename_i h3
 cases hm:ZP s.sent p.src p.seq with
 | none=>rw [hm] at h;cases h
 | some m =>
  rw [hm] at h;simp only at h
  split at h
  ·cases h
  rename_i h4;exact ⟨by simpa using h1,by simpa using h2,by simpa using h3,m,rfl,by simpa using h4⟩
theorem Qv2: Qv7 95:=by
 intro s v pv av ar p ack h N w z hv hp ha hh hN A a7 aj L aB hz;have HE:=hid (show Zd s p ack.length z=if Jf s p≠0 then Jf s p else QdP (Qv s p.src) p ack.length z from rfl)
 have aY:=hid (fun W (hx:Bd w W)=>QmO s p v pv N W (hv.below (hx.mono hN)) (hp.below (hx.mono hN)) (Bh hN hx.size) A (L.past hx))
 have aP:=hid (fun W ev (c:Ch) (f:Cl) (hx:Bd w W) (he:QdE W N ev c f) (an:f.fits) (hw:Qz p=0) hz=>QrO s c f p ack h v ev pv av ar N W z (hv.below (hx.mono hN)) he (hp.below (hx.mono hN)) (ha.below (hx.mono hN)) (hh.below (hx.mono hN)) (Bh hN hx.size) an a7 aj (L.past hx) (aB.below hx) hw hz)
 have aX:=hid (fun W (m:Mk) (hx:Bd w W) (h0:Qd s=0) hm=>Qgo s p m v pv N W (hv.below (hx.mono hN)) (hp.below (hx.mono hN)) (Bh hN hx.size) A h0 hm)
 obtain ⟨oa,ca,rfl,-⟩:=ha.shape;obtain ⟨o1,c1,o2,c2,o3,c3,o4,c4,o5,c5,o6,c6,o7,c7,rfl,hm⟩:=hv.open;obtain ⟨odd,cdd,rfl,al⟩:=hp.open;obtain ⟨q1,e1,q2,e2,q3,e3,r1,s1,r2,s2,r3,s3,r4,s4,r5,s5,r6,s6,rfl,-⟩:=hh.open;have aO:=hid A.2.1.2;have aZ:=hid hz;clear hv hp hh hm al A a7 L aB hz ha
 go_in
 go_upto_region 1 with fail
 refine Qan ?_;intro w0 F0 aq
 go_wp2_with (first | refine F0.load 0 rfl Qa ?_ | refine F0.load 1 rfl Qh ?_)
 refine (aY.out w0 F0.b).mono ?_;rintro e w1 ⟨aE,ev,rfl,aI⟩;have F1:=F0.go aE;have HS1:=hid (show w.heap.size+4≤w1.heap.size by have:=aE.size;omega)
 obtain ⟨y0,y1,y2,y3,y4,y5,y6,y7,y8,y9,y10,E,Y⟩:=aI.cells;subst E;have aQ:=hid aI;have aW:=hid Y;clear aI Y aE F0 aq aY
 go_upto_region 2 with (refine F1.storeNew rfl Qj aW.out ?_;intro w2 F2 a3)
 have T:=hid (aQ.out.below (a3.mono (Bh hN F1.b.size)));clear aQ aW a3 F1
 by_cases hz:Jf s p=0
 ·have C:=hid (HE.out.trans (if_neg (by simp [hz])))
  obtain ⟨ad,aH,-,mk,aa,-⟩:=Qfj hz;obtain ⟨j,k,m,c,d,f,G,hj,O,ak,hd,am,hf,S,ac,au,-⟩:=Y1 aH;obtain ⟨ka,ma,E,aJ⟩:=T.out.1 hz;rw [O,S] at E;rw [S] at aJ;rw [O] at C;have ai:=hid (JB aH).1;simp only [BW,BN,BL,BO] at E;obtain ⟨rfl,rfl,rfl,rfl,rfl,rfl,rfl,rfl,rfl,rfl,rfl⟩:=E;rw [hz];have aS:=hid aJ;have HJ:=hid hj;have aT:=hid G;have aN:=hid O;have ag:=hid (Jy ac);have ah:=hid ad;have ae:=hid aa;have aM:=hid (show QU f s.time h.height (fun r=>h.prf.key=Jt QhA [p.dst.toNat,p.seq.toNat]∧h.prf.val=sha ack∧JZ r h.prf) z by have:=aZ.out;unfold QgH at this;rw [S] at this;exact this)
  have aR:=hid (aO.out f (Bn hf));clear hz G hj O ak hd am hf S ac au aJ T HE ad aH aZ aO aa
  go_wp2_with (first | refine F2.load 0 rfl Qa ?_ | refine F2.load 4 rfl Qj ?_ | refine F2.load 1 rfl Qh ?_ | refine F2.load 2 rfl QN ?_)
  refine (aP.out w2 _ c f F2.b ⟨ka,ma,rfl,aS.out⟩ aR.out ah.out aM.out).mono ?_;rintro e w3 ⟨rfl,aF⟩;have F3:=F2.go aF;have hsz3:=aF.size;have a9:=F2.lts;clear aF aP aS aM aR
  by_cases hz:QdP c p ack.length z=0
  ·have M:=hid (C.out.trans hz)
   have HCZ:=hid hz;rw [hz];clear hz C
   go_wp2_with (first | refine F3.load 0 rfl Qa ?_ | refine F3.load 1 rfl Qh ?_)
   refine (aX.out w3 mk F3.b ai.out ae.out).mono ?_;rintro e w5 ⟨aG,p1,d1,p2,d2,p3,d3,p4,n4,d4,p5,d5,p6,d6,p7,d7,rfl,aA⟩;have F5:=F3.go aG;have hg0:=F2.r0.lt;have hg3:=F2.r3.lt;have hsz5:=aG.size;have aU:=hid aA;clear aA aG aX
   go_upto_region 8 with (refine F5.store 0 rfl Qa (by simp) ?_;intro w6 F6 O6)
   have D:=hid (aU.out.only O6 (by omega))
   have hsz6:=O6.size;clear O6 F5 aU F3;have a8:∀ g∈[w.heap.size,w.heap.size+1,w.heap.size+1+1,w.heap.size+1+1+1,w1.heap.size],g<w3.heap.size:=fun g hg=>Bt (a9 g hg) (by omega)
   have ko:=F6.r4.k11.2.1;have k5:=F6.r0.k10.2.2.2.2.2.1;have m0:=F6.r1.k5.1
   cases ho:c.ordered with
   | true =>
    rw [ho] at ko;have aD:=hid ho;clear ho;obtain ⟨g,ap,ao,hgl,a4,a5⟩:=Qf.at D.out.chans (r:=Qr c) (i:=j) (by rw [Bs,HJ.out];rfl)
    subst ap;have f6:=a4 6 _ rfl;have z6:=a5 (j*7+6);skip;have G:=aT.out;rw [G] at m0;have hlt:(j:Int)<(s.chans.length:Int):=by have:=(Bm.1 HJ.out).1;omega
    have aw:IntKind.i64.wrap (c.ack+1)=c.ack+1:=by have:=ag.out;rw [Cd];omega
    have I:=Qf.putCell D.out.chans (i:=j) (j:=6) (x:=Bb (c.ack+1)) (r:=Qr c) (by rw [Bs,HJ.out];rfl) (by decide) rfl
    have hput':JA 86 Qr 7 (w6.setCell ⟨g,j*7+6,none⟩ (Bb (c.ack+1))) w3.heap.size (.slice (some ⟨g,0,none⟩) s.chans.length d3) (s.chans.set j c.ack1):=by
     have e:(s.chans.map Qr).set j ((Qr c).set 6 (Bb (c.ack+1)))=(s.chans.set j c.ack1).map Qr:=by rw [Dc];rfl
     rw [e] at I;exact I
    have a6:w6.grownBy (w6.setCell ⟨g,j*7+6,none⟩ (Bb (c.ack+1))) (some g):=Q3 w6 g (j*7+6) [Bb (c.ack+1)];have aV:=hid (D.out.putChans a6 hput' (fun b e=>.inl e) (fun b e=>.inr (Qf.own hput' b e).1))
    have ab:∀ q∈[w.heap.size,w.heap.size+1,w.heap.size+1+1,w.heap.size+1+1+1,w1.heap.size],q<g:=fun q hq=>Bt (a8 q hq) ao
    have F7:=F6.past (w2:=w6.setCell ⟨g,j*7+6,none⟩ (Bb (c.ack+1))) ((Bi g _).setCell (Bj g) _) (by have:=ab _ (.head _);omega) ab
    obtain ⟨w7,aL⟩:∃ w7,w6.setCell ⟨g,j*7+6,none⟩ (Bb (c.ack+1))=w7:=⟨_,rfl⟩;rw [aL] at aV F7;have af:=hid aL;clear aL I hput' a4 a5 D a6 G
    go_upto_region 10 with fail
    refine Qaj af.out ?_;clear f6 z6 k5 m0 F6 ko aw
    go_wp2_with (first | refine F7.load 0 rfl Qa ?_ | (refine F7.store 3 rfl Qa (by simp) ?_;intro w8 F8 O8))
    refine Qk results95 rfl F8.r3 Qa rfl ⟨F8.b,_,by rw [M.out];rfl,?_⟩
    have aK:Ze s p ack.length z={ ({ s with sent:=Q0 s.sent p.src p.seq }:St) with chans:=s.chans.set j c.ack1 }:=by
     unfold Ze;rw [if_pos M.out];unfold Jo QbX;rw [aN.out,if_pos aD.out,aT.out];rfl
    rw [aK];exact (aV.out.only O8 (by omega)).holds (fun b hb=>hb.imp id (fun h=>by omega))
   | false =>
    rw [ho] at ko;have aD:=hid ho;clear ho
    go_upto_region 10 with fail
    clear k5 m0 ko
    go_wp2_with (first | refine F6.load 0 rfl Qa ?_ | (refine F6.store 3 rfl Qa (by simp) ?_;intro w8 F8 O8))
    refine Qk results95 rfl F8.r3 Qa rfl ⟨F8.b,_,by rw [M.out];rfl,?_⟩
    have aK:Ze s p ack.length z={ s with sent:=Q0 s.sent p.src p.seq }:=by
     unfold Ze;rw [if_pos M.out];unfold Jo;rw [aN.out,if_neg (by simp [aD.out])]
    rw [aK];exact (D.out.only O8 (by omega)).holds (fun b hb=>hb.imp id (fun h=>by omega))
  ·have HL:=hid C.out
   have aC:=hid (show Zd s p ack.length z≠0 by rw [C.out];exact hz)
   have e0:(QdP c p ack.length z != 0)=true:=by simpa using hz
   clear hz
   go_wp2_with (refine F3.store 3 rfl Qa (by simp) ?_;intro wz FZ OZ)
   refine Qk results95 rfl FZ.r3 Qa rfl ⟨FZ.b,_,by rw [HL.out];rfl,?_⟩
   rw [show Ze s p ack.length z=St.none from if_neg aC.out];exact Qg _ _ _
 ·have HL:=hid (HE.out.trans (if_pos hz))
  have aC:=hid (show Zd s p ack.length z≠0 by rw [HL.out];exact hz)
  have e0:(Jf s p != 0)=true:=by simpa using hz
  clear hz
  go_wp2_with (refine F2.store 3 rfl Qa (by simp) ?_;intro wz FZ OZ)
  refine Qk results95 rfl FZ.r3 Qa rfl ⟨FZ.b,_,by rw [HL.out];rfl,?_⟩
  rw [show Ze s p ack.length z=St.none from if_neg aC.out];exact Qg _ _ _
theorem Qv4: QvF 98:=by
 intro s v pv ap p next h N w z hv hp hh hN A a7 M aB hz;have HE:=hid (show Zx s p next h.height z=if Jf s p≠0 then Jf s p else QhD (Qv s p.src) p next h.height z from rfl)
 have aY:=hid (fun W (hx:Bd w W)=>QmO s p v pv N W (hv.below (hx.mono hN)) (hp.below (hx.mono hN)) (Bh hN hx.size) A (M.past hx))
 have aP:=hid (fun W ev (c:Ch) (f:Cl) (hx:Bd w W) (he:QdE W N ev c f) (al:f.fits) (hw:Qz p=0) hz=>Qsa s c f p next h v ev pv ap N W z (hv.below (hx.mono hN)) he (hp.below (hx.mono hN)) (hh.below (hx.mono hN)) (Bh hN hx.size) al a7 (M.past hx) (aB.below hx) hw hz)
 have aX:=hid (fun W (m:Mk) (hx:Bd w W) (h0:Qd s=0) hm=>Qgo s p m v pv N W (hv.below (hx.mono hN)) (hp.below (hx.mono hN)) (Bh hN hx.size) A h0 hm)
 obtain ⟨o1,c1,o2,c2,o3,c3,o4,c4,o5,c5,o6,c6,o7,c7,rfl,hm⟩:=hv.open;obtain ⟨odd,cdd,rfl,aj⟩:=hp.open;obtain ⟨q1,e1,q2,e2,q3,e3,r1,s1,r2,s2,r3,s3,r4,s4,r5,s5,r6,s6,rfl,-⟩:=hh.open;have aO:=hid A.2.1.2;have aZ:=hid hz;clear hv hp hh hm aj A a7 M aB hz
 go_in
 go_upto_region 1 with fail
 refine Qan ?_;intro w0 F0 ao
 go_wp2_with (first | refine F0.load 0 rfl Qa ?_ | refine F0.load 1 rfl Qh ?_)
 refine (aY.out w0 F0.b).mono ?_;rintro e w1 ⟨aE,ev,rfl,aI⟩;have F1:=F0.go aE;have HS1:=hid (show w.heap.size+4≤w1.heap.size by have:=aE.size;omega)
 obtain ⟨y0,y1,y2,y3,y4,y5,y6,y7,y8,y9,y10,G,Y⟩:=aI.cells;subst G;have aQ:=hid aI;have aW:=hid Y;clear aI Y aE F0 ao aY
 go_upto_region 2 with (refine F1.storeNew rfl Qj aW.out ?_;intro w2 F2 a3)
 have T:=hid (aQ.out.below (a3.mono (Bh hN F1.b.size)));clear aQ aW a3 F1
 by_cases hz:Jf s p=0
 ·have C:=hid (HE.out.trans (if_neg (by simp [hz])))
  obtain ⟨ad,aH,-,mk,aa,-⟩:=Qfj hz;obtain ⟨j,k,m,c,d,f,I,hj,E,ai,hd,ak,hf,S,ac,aq,-⟩:=Y1 aH;obtain ⟨ka,ma,G,aJ⟩:=T.out.1 hz;rw [E,S] at G;rw [S] at aJ;rw [E] at C;have ah:=hid (JB aH).1;simp only [BW,BN,BL,BO] at G;obtain ⟨rfl,rfl,rfl,rfl,rfl,rfl,rfl,rfl,rfl,rfl,rfl⟩:=G;rw [hz];have aS:=hid aJ;have HJ:=hid hj;have aT:=hid I;have aN:=hid E;have HWC:=hid (Jy ac);have ag:=hid ad;have ae:=hid aa;have aM:=hid (show if c.ordered=true then QU f s.time h.height (fun r=>h.prf.key=Jt Qel [p.dst.toNat]∧h.prf.val=ZK [next]∧JZ r h.prf) z else QU f s.time h.height (fun r=>QaG r (Jt QhB [p.dst.toNat,p.seq.toNat]) h.gap) z by have:=aZ.out;unfold Qdt at this;rw [E,S] at this;exact this)
  have aR:=hid (aO.out f (Bn hf));clear hz I hj E ai hd ak hf S ac aq aJ T HE ad aH aZ aO aa
  go_wp2_with (first | refine F2.load 0 rfl Qa ?_ | refine F2.load 4 rfl Qj ?_ | refine F2.load 1 rfl Qh ?_ | refine F2.load 2 rfl QN ?_)
  refine (aP.out w2 _ c f F2.b ⟨ka,ma,rfl,aS.out⟩ aR.out ag.out aM.out).mono ?_;rintro e w3 ⟨rfl,aF⟩;have F3:=F2.go aF;have hsz3:=aF.size;have a9:=F2.lts;clear aF aP aS aM aR
  by_cases hz:QhD c p next h.height z=0
  ·have O:=hid (C.out.trans hz)
   have HCZ:=hid hz;rw [hz];clear hz C
   go_wp2_with (first | refine F3.load 0 rfl Qa ?_ | refine F3.load 1 rfl Qh ?_)
   refine (aX.out w3 mk F3.b ah.out ae.out).mono ?_;rintro e w5 ⟨aG,p1,d1,p2,d2,p3,d3,p4,n4,d4,p5,d5,p6,d6,p7,d7,rfl,aA⟩;have F5:=F3.go aG;have hg0:=F2.r0.lt;have hg3:=F2.r3.lt;have hsz5:=aG.size;have aU:=hid aA;clear aA aG aX
   go_upto_region 8 with (refine F5.store 0 rfl Qa (by simp) ?_;intro w6 F6 O6)
   have D:=hid (aU.out.only O6 (by omega))
   have hsz6:=O6.size;clear O6 F5 aU F3;have a8:∀ g∈[w.heap.size,w.heap.size+1,w.heap.size+1+1,w.heap.size+1+1+1,w1.heap.size],g<w3.heap.size:=fun g hg=>Bt (a9 g hg) (by omega)
   have ko:=F6.r4.k11.2.1;have k5:=F6.r0.k10.2.2.2.2.2.1;have m0:=F6.r1.k5.1
   cases ho:c.ordered with
   | true =>
    rw [ho] at ko;have aD:=hid ho;clear ho;obtain ⟨g,an,am,hgl,a4,a5⟩:=Qf.at D.out.chans (r:=Qr c) (i:=j) (by rw [Bs,HJ.out];rfl)
    subst an;have f6:=a4 0 _ rfl;have z6:=a5 (j*7);simp only [BK] at f6;have I:=aT.out;rw [I] at m0;have hlt:(j:Int)<(s.chans.length:Int):=by have:=(Bm.1 HJ.out).1;omega
    have L:=Qf.putCell D.out.chans (i:=j) (j:=0) (x:=Bb 4) (r:=Qr c) (by rw [Bs,HJ.out];rfl) (by decide) rfl
    have hput':JA 86 Qr 7 (w6.setCell ⟨g,j*7,none⟩ (Bb 4)) w3.heap.size (.slice (some ⟨g,0,none⟩) s.chans.length d3) (s.chans.set j c.shut):=by
     have e:(s.chans.map Qr).set j ((Qr c).set 0 (Bb 4))=(s.chans.set j c.shut).map Qr:=by rw [Dc];rfl
     rw [e] at L;exact L
    have a6:w6.grownBy (w6.setCell ⟨g,j*7,none⟩ (Bb 4)) (some g):=Q3 w6 g (j*7) [Bb 4];have aV:=hid (D.out.putChans a6 hput' (fun b e=>.inl e) (fun b e=>.inr (Qf.own hput' b e).1))
    have ab:∀ q∈[w.heap.size,w.heap.size+1,w.heap.size+1+1,w.heap.size+1+1+1,w1.heap.size],q<g:=fun q hq=>Bt (a8 q hq) am
    have F7:=F6.past (w2:=w6.setCell ⟨g,j*7,none⟩ (Bb 4)) ((Bi g _).setCell (Bj g) _) (by have:=ab _ (.head _);omega) ab
    obtain ⟨w7,aL⟩:∃ w7,w6.setCell ⟨g,j*7,none⟩ (Bb 4)=w7:=⟨_,rfl⟩;rw [aL] at aV F7;have af:=hid aL;clear aL L hput' a4 a5 D a6 I
    go_upto_region 10 with fail
    refine Qaj af.out ?_;clear f6 z6 k5 m0 F6 ko
    go_wp2_with (first | refine F7.load 0 rfl Qa ?_ | (refine F7.store 3 rfl Qa (by simp) ?_;intro w8 F8 O8))
    refine Qk results98 rfl F8.r3 Qa rfl ⟨F8.b,_,by rw [O.out];rfl,?_⟩
    have aK:Zy s p next h.height z={ ({ s with sent:=Q0 s.sent p.src p.seq }:St) with chans:=s.chans.set j c.shut }:=by
     unfold Zy;rw [if_pos O.out];unfold Jo QbX;rw [aN.out,if_pos aD.out,aT.out];rfl
    rw [aK];exact (aV.out.only O8 (by omega)).holds (fun b hb=>hb.imp id (fun h=>by omega))
   | false =>
    rw [ho] at ko;have aD:=hid ho;clear ho
    go_upto_region 10 with fail
    clear k5 m0 ko
    go_wp2_with (first | refine F6.load 0 rfl Qa ?_ | (refine F6.store 3 rfl Qa (by simp) ?_;intro w8 F8 O8))
    refine Qk results98 rfl F8.r3 Qa rfl ⟨F8.b,_,by rw [O.out];rfl,?_⟩
    have aK:Zy s p next h.height z={ s with sent:=Q0 s.sent p.src p.seq }:=by
     unfold Zy;rw [if_pos O.out];unfold Jo;rw [aN.out,if_neg (by simp [aD.out])]
    rw [aK];exact (D.out.only O8 (by omega)).holds (fun b hb=>hb.imp id (fun h=>by omega))
  ·have HL:=hid C.out
   have aC:=hid (show Zx s p next h.height z≠0 by rw [C.out];exact hz)
   have e0:(QhD c p next h.height z != 0)=true:=by simpa using hz
   clear hz
   go_wp2_with (refine F3.store 3 rfl Qa (by simp) ?_;intro wz FZ OZ)
   refine Qk results98 rfl FZ.r3 Qa rfl ⟨FZ.b,_,by rw [HL.out];rfl,?_⟩
   rw [show Zy s p next h.height z=St.none from if_neg aC.out];exact Qg _ _ _
 ·have HL:=hid (HE.out.trans (if_pos hz))
  have aC:=hid (show Zx s p next h.height z≠0 by rw [HL.out];exact hz)
  have e0:(Jf s p != 0)=true:=by simpa using hz
  clear hz
  go_wp2_with (refine F2.store 3 rfl Qa (by simp) ?_;intro wz FZ OZ)
  refine Qk results98 rfl FZ.r3 Qa rfl ⟨FZ.b,_,by rw [HL.out];rfl,?_⟩
  rw [show Zy s p next h.height z=St.none from if_neg aC.out];exact Qg _ _ _
theorem ZI (s:St) (p:Pk) (c:Ch):(Jo s p c).purses=s.purses:=by
 unfold Jo
 by_cases h:(Qv s p.src).ordered=true
 ·rw [if_pos h];rfl
 ·rw [if_neg h]
theorem QmP (h:Jf s p=0):∃ k:Nat,p.src=(k:Int)∧k≤9223372036854775807:=by
 have h1:=(Qfj h).1;unfold Qz at h1
 split at h1
 ·cases h1
 ·rename_i hf
  simp [Qs] at hf;exact ⟨p.src.toNat,by omega,by omega⟩
theorem QsD {z:Int} (h:Zd s p n z=0):(Ze s p n z).purses=s.purses∧∃ k:Nat,p.src=(k:Int)∧k≤9223372036854775807:=by
 refine ⟨by unfold Ze;rw [if_pos h,ZI],?_⟩
 unfold Zd at h
 by_cases h0:Jf s p=0
 ·exact QmP h0
 ·rw [if_pos h0] at h;exact absurd h h0
theorem Qsb {n t z:Int} (h:Zx s p n t z=0):(Zy s p n t z).purses=s.purses∧∃ k:Nat,p.src=(k:Int)∧k≤9223372036854775807:=by
 refine ⟨by unfold Zy;rw [if_pos h,ZI],?_⟩
 unfold Zx at h
 by_cases h0:Jf s p=0
 ·exact QmP h0
 ·rw [if_pos h0] at h;exact absurd h h0
theorem Qpn (s:St) (m:Ms) (o:Nat→Option Addr) (c:Nat→Nat) (v:Value) (N:Nat) (w:World) (z:Int) (hv:StV w N v s) (hm:MsM w N m o c) (hN:N≤w.heap.size) (C:s.fits) (D:m.fits) (L:Qi w) (E:QL w) (hw:Qd s=0) (hz:QgH s m.pk m.ack m.sh z) :
  Calls prog 63 #[v,.agg (msC m o c).toArray] w fun e w'=>Bd w w'∧∃ v',e=.returned (.tuple #[v',Bb (Qnb s m z)])∧Qp N w.heap.size w' v' (Qkg s m z):=by
 have aA:=hid (fun W (hb:Bd w W)=>Qv2 s v _ _ _ m.pk m.ack m.sh N W z (hv.below (hb.mono hN)) (hm.pk.below (hb.mono hN)) (hm.ack.below (hb.mono hN)) (hm.sh.below (hb.mono hN)) (Bh hN hb.size) C D.2.2.2.2.1 D.2.2.2.2.2.2.2 (L.past hb) (E.below hb) hz)
 have aM:=hid (fun W g (hb:Bd w W) (hr:Row W g 5 [.int .u8 48])=>QmN m.ack [48] _ (.slice (some ⟨g,0,none⟩) 1 1) N W.heap.size W (hm.ack.below (hb.mono hN)) (.inr (.inr ⟨g,0,1,rfl,Bj _,fun i hi=>⟨hr.lt,by
  have:i=0:=by simp at hi;omega
  subst this
  exact hr.cell 0⟩⟩)) (by have:=D.2.2.2.2.2.2.2;omega) (by decide))
 have aF:=hid (fun (h0:Zd s m.pk m.ack.length z=0) (base:Nat) (v':Value) W (hb:Bd w W) (aO:base≤W.heap.size) (hh:Qp N base W v' (Ze s m.pk m.ack.length z))=>by
  obtain ⟨aR,k,hk,aP⟩:=QsD h0
  exact Qlu (Ze s m.pk m.ack.length z) m.pk k v' _ N base N W hh (hm.pk.below (hb.mono hN)) (Bh hN hb.size) aO (by rw [aR];exact Q9 hw C) D.2.2.2.2.2.2.1 hk aP (E.below hb))
 have HE:=hid (show Qnb s m z=if Zd s m.pk m.ack.length z≠0∨m.ack≠[48] then Zd s m.pk m.ack.length z else Y8 (Ze s m.pk m.ack.length z) m.pk from rfl)
 have j:=hid (show Qkg s m z=if Zd s m.pk m.ack.length z≠0∨m.ack≠[48] then Ze s m.pk m.ack.length z else JH (Ze s m.pk m.ack.length z) m.pk from rfl)
 obtain ⟨o1,c1,o2,c2,o3,c3,o4,c4,o5,c5,o6,c6,o7,c7,rfl,-⟩:=hv.open;clear hv hm C D L E hz hw;generalize s.purses.length=n7,s.clients.length=n1,s.conns.length=n2,s.chans.length=n3,s.sent.length=n4,s.got.length=n5,s.acks.length=n6 at *
 go_in
 go_upto_region 1 with fail
 refine JR ?_;intro w0 F0 hs;clear hs;have Y:w0.cell? ⟨w.heap.size+1,61,none⟩=some (.slice (o 24) m.ack.length (c 24)):=F0.r1.cell 61
 go_wp2_with (first | refine F0.load 0 rfl Qa ?_ | refine F0.loadMid 1 56 [Bb m.pk.src,Bb m.pk.dst,Bb m.pk.seq,.slice (o 23) m.pk.data.length (c 23),Bb m.pk.tmo] rfl rfl rfl rfl rfl Qh ?_ | refine F0.loadMid 1 32 [Bb m.sh.height,Bb m.sh.prf.index,Bb m.sh.prf.size,.slice (o 14) m.sh.prf.key.length (c 14),.slice (o 15) m.sh.prf.val.length (c 15),.slice (o 16) m.sh.prf.path.length (c 16),.bool m.sh.gap.hasL,.bool m.sh.gap.hasR,Bb m.sh.gap.left.index,Bb m.sh.gap.left.size,.slice (o 17) m.sh.gap.left.key.length (c 17),.slice (o 18) m.sh.gap.left.val.length (c 18),.slice (o 19) m.sh.gap.left.path.length (c 19),Bb m.sh.gap.right.index,Bb m.sh.gap.right.size,.slice (o 20) m.sh.gap.right.key.length (c 20),.slice (o 21) m.sh.gap.right.val.length (c 21),.slice (o 22) m.sh.gap.right.path.length (c 22)] rfl rfl rfl rfl rfl QN ?_)
 refine (aA.out _ F0.b).mono ?_;rintro e w1 ⟨S,v',rfl,hh⟩;have F1:=F0.go S;have HH:=hid hh;have l0:=F0.r0.lt;have l2:=F0.r2.lt;have M:=hid F0.b.size;have aB:=hid S.size;obtain ⟨a1,b1,d1,a2,b2,d2,a3,b3,d3,a4,b4,d4,a5,b5,d5,a6,b6,d6,a7,b7,d7,rfl⟩:=hh.open;clear S hh aA F0 Y;generalize aQ:Zd s m.pk m.ack.length z=pe at *;generalize Ze s m.pk m.ack.length z=PS at *;clear aQ
 go_upto_region 2 with (refine F1.store 0 rfl Qa (by simp) ?_;intro w2 F2 O2)
 have O:=hid (HH.out.only O2 (by omega) l0)
 have aJ:=O2.size;have aC:=hid (show w0.heap.size≤w2.heap.size by rw [aJ];exact aB.out)
 clear HH O2 F1 aJ
 by_cases hz:pe=0
 ·subst hz
  have aG:=hid (aF.out rfl);have Y:w2.cell? ⟨w.heap.size+1,61,none⟩=some (.slice (o 24) m.ack.length (c 24)):=F2.r1.cell 61;clear aF
  go_wp2_with fail
  refine Qb4 ?_;intro wl hl I;have F3:=F2.go I;have aH:=hid (O.out.below I);have aD:=hid (Bh aC.out I.size);refine (aM.out _ _ F3.b hl).mono ?_;rintro e w4 ⟨rfl,qn,aL⟩;have G:Bd wl w4:=by rw [aL];exact ⟨rfl,rfl,rfl,Bj _,fun _ _=>rfl⟩
  have F4:=F3.go G;have aI:=hid (aH.out.below G);have aE:=hid (Bh aD.out G.size);clear aL G hl I F3 F2 aH O Y
  by_cases ha:m.ack=[48]
  ·have q:=hid (HE.out.trans (if_neg (by simp [ha])))
   have A:=hid (j.out.trans (if_neg (by simp [ha])))
   rw [BB ha];clear ha HE j
   go_wp2_with (first | refine F4.load 0 rfl Qa ?_ | refine F4.loadMid 1 56 [Bb m.pk.src,Bb m.pk.dst,Bb m.pk.seq,.slice (o 23) m.pk.data.length (c 23),Bb m.pk.tmo] rfl rfl rfl rfl rfl Qh ?_)
   refine (aG.out w0.heap.size _ _ F4.b aE.out aI.out).mono ?_;rintro e w5 ⟨aK,v5,rfl,T⟩;have F5:=F4.go aK;have aN:=hid T;obtain ⟨e1,f1,g1,e2,f2,g2,e3,f3,g3,e4,f4,g4,e5,f5,g5,e6,f6,g6,e7,f7,g7,rfl⟩:=T.open;generalize Y8 PS m.pk=re at *;clear aK T F4
   go_wp2_with (refine F5.store 2 rfl Qa (by simp) ?_;intro w6 F6 O6)
   refine Qk results63 rfl F6.r2 Qa rfl ⟨F6.b,_,by rw [q.out];rfl,?_⟩
   rw [A.out];exact (aN.out.only O6 (by omega) l2).lower M.out
  ·have q:=hid (HE.out.trans (if_pos (.inr ha)))
   have A:=hid (j.out.trans (if_pos (.inr ha)));rw [BD ha];clear ha HE j
   go_wp2_with (first | refine F4.load 0 rfl Qa ?_ | (refine F4.store 2 rfl Qa (by simp) ?_;intro w6 F6 O6))
   refine Qk results63 rfl F6.r2 Qa rfl ⟨F6.b,_,by rw [q.out];rfl,?_⟩
   rw [A.out];exact (aI.out.only O6 (by omega) l2).lower M.out
 ·have hzb:(pe != 0)=true:=by simpa using hz
  have q:=hid (HE.out.trans (if_pos (.inl hz)));have A:=hid (j.out.trans (if_pos (.inl hz)));clear hz HE j
  go_wp2_with (first | refine F2.load 0 rfl Qa ?_ | (refine F2.store 2 rfl Qa (by simp) ?_;intro w6 F6 O6))
  refine Qk results63 rfl F6.r2 Qa rfl ⟨F6.b,_,by rw [q.out];rfl,?_⟩
  rw [A.out];exact (O.out.only O6 (by omega) l2).lower M.out
theorem QlP (s:St) (m:Ms) (o:Nat→Option Addr) (c:Nat→Nat) (v:Value) (N:Nat) (w:World) (z:Int) (hv:StV w N v s) (hm:MsM w N m o c) (hN:N≤w.heap.size) (j:s.fits) (L:m.fits) (C:Qi w) (q:QL w) (hw:Qd s=0) (hz:Qdt s m.pk m.next m.sh z) :
  Calls prog 64 #[v,.agg (msC m o c).toArray] w fun e w'=>Bd w w'∧∃ v',e=.returned (.tuple #[v',Bb (QnR s m z)])∧Qp N w.heap.size w' v' (QkO s m z):=by
 have M:=hid (fun W (hb:Bd w W)=>Qv4 s v _ _ m.pk m.next m.sh N W z (hv.below (hb.mono hN)) (hm.pk.below (hb.mono hN)) (hm.sh.below (hb.mono hN)) (Bh hN hb.size) j L.2.2.2.2.1 (C.past hb) (q.below hb) hz)
 have T:=hid (fun (h0:Zx s m.pk m.next m.sh.height z=0) (base:Nat) (v':Value) W (hb:Bd w W) (aF:base≤W.heap.size) (hh:Qp N base W v' (Zy s m.pk m.next m.sh.height z))=>by
  obtain ⟨aI,k,hk,aG⟩:=Qsb h0
  exact Qlu (Zy s m.pk m.next m.sh.height z) m.pk k v' _ N base N W hh (hm.pk.below (hb.mono hN)) (Bh hN hb.size) aF (by rw [aI];exact Q9 hw j) L.2.2.2.2.2.2.1 hk aG (q.below hb))
 have HE:=hid (show QnR s m z=if Zx s m.pk m.next m.sh.height z≠0 then Zx s m.pk m.next m.sh.height z else Y8 (Zy s m.pk m.next m.sh.height z) m.pk from rfl)
 have A:=hid (show QkO s m z=if Zx s m.pk m.next m.sh.height z≠0 then Zy s m.pk m.next m.sh.height z else JH (Zy s m.pk m.next m.sh.height z) m.pk from rfl)
 obtain ⟨o1,c1,o2,c2,o3,c3,o4,c4,o5,c5,o6,c6,o7,c7,rfl,-⟩:=hv.open;clear hv hm j L C q hz hw;generalize s.purses.length=n7,s.clients.length=n1,s.conns.length=n2,s.chans.length=n3,s.sent.length=n4,s.got.length=n5,s.acks.length=n6 at *
 go_in
 go_upto_region 1 with fail
 refine JR ?_;intro w0 F0 hs;clear hs;have aJ:w0.cell? ⟨w.heap.size+1,55,none⟩=some (Bb m.next):=F0.r1.cell 55
 go_wp2_with (first | refine F0.load 0 rfl Qa ?_ | refine F0.loadMid 1 56 [Bb m.pk.src,Bb m.pk.dst,Bb m.pk.seq,.slice (o 23) m.pk.data.length (c 23),Bb m.pk.tmo] rfl rfl rfl rfl rfl Qh ?_ | refine F0.loadMid 1 32 [Bb m.sh.height,Bb m.sh.prf.index,Bb m.sh.prf.size,.slice (o 14) m.sh.prf.key.length (c 14),.slice (o 15) m.sh.prf.val.length (c 15),.slice (o 16) m.sh.prf.path.length (c 16),.bool m.sh.gap.hasL,.bool m.sh.gap.hasR,Bb m.sh.gap.left.index,Bb m.sh.gap.left.size,.slice (o 17) m.sh.gap.left.key.length (c 17),.slice (o 18) m.sh.gap.left.val.length (c 18),.slice (o 19) m.sh.gap.left.path.length (c 19),Bb m.sh.gap.right.index,Bb m.sh.gap.right.size,.slice (o 20) m.sh.gap.right.key.length (c 20),.slice (o 21) m.sh.gap.right.val.length (c 21),.slice (o 22) m.sh.gap.right.path.length (c 22)] rfl rfl rfl rfl rfl QN ?_)
 refine (M.out _ F0.b).mono ?_;rintro e w1 ⟨G,v',rfl,hh⟩;have F1:=F0.go G;have HH:=hid hh;have l0:=F0.r0.lt;have l2:=F0.r2.lt;have aA:=hid F0.b.size;have O:=hid G.size;obtain ⟨a1,b1,d1,a2,b2,d2,a3,b3,d3,a4,b4,d4,a5,b5,d5,a6,b6,d6,a7,b7,d7,rfl⟩:=hh.open;clear G hh M F0 aJ;generalize aH:Zx s m.pk m.next m.sh.height z=pe at *;generalize Zy s m.pk m.next m.sh.height z=PS at *;clear aH
 go_upto_region 2 with (refine F1.store 0 rfl Qa (by simp) ?_;intro w2 F2 O2)
 have aB:=hid (HH.out.only O2 (by omega) l0)
 have aC:=O2.size;have S:=hid (show w0.heap.size≤w2.heap.size by rw [aC];exact O.out)
 clear HH O2 F1 aC
 by_cases hz:pe=0
 ·subst hz
  have Y:=hid (T.out rfl);have D:=hid (HE.out.trans (if_neg (by simp)))
  have E:=hid (A.out.trans (if_neg (by simp)))
  clear T HE A
  go_wp2_with (first | refine F2.load 0 rfl Qa ?_ | refine F2.loadMid 1 56 [Bb m.pk.src,Bb m.pk.dst,Bb m.pk.seq,.slice (o 23) m.pk.data.length (c 23),Bb m.pk.tmo] rfl rfl rfl rfl rfl Qh ?_)
  refine (Y.out w0.heap.size _ _ F2.b S.out aB.out).mono ?_;rintro e w5 ⟨aD,v5,rfl,I⟩;have F5:=F2.go aD;have aE:=hid I;obtain ⟨e1,f1,g1,e2,f2,g2,e3,f3,g3,e4,f4,g4,e5,f5,g5,e6,f6,g6,e7,f7,g7,rfl⟩:=I.open;generalize Y8 PS m.pk=re at *;clear aD I F2
  go_wp2_with (refine F5.store 2 rfl Qa (by simp) ?_;intro w6 F6 O6)
  refine Qk results64 rfl F6.r2 Qa rfl ⟨F6.b,_,by rw [D.out];rfl,?_⟩
  rw [E.out];exact (aE.out.only O6 (by omega) l2).lower aA.out
 ·have hzb:(pe != 0)=true:=by simpa using hz
  have D:=hid (HE.out.trans (if_pos hz));have E:=hid (A.out.trans (if_pos hz));clear hz HE A
  go_wp2_with (first | refine F2.load 0 rfl Qa ?_ | (refine F2.store 2 rfl Qa (by simp) ?_;intro w6 F6 O6))
  refine Qk results64 rfl F6.r2 Qa rfl ⟨F6.b,_,by rw [D.out];rfl,?_⟩
  rw [E.out];exact (aB.out.only O6 (by omega) l2).lower aA.out
end Go.Proofs.YtnedafiokmjkkaaGreatDoor
