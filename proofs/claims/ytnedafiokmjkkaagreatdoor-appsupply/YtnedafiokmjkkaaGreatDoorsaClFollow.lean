/- What package client's learn answers, and what it is made of. -/
import Derived.Test.YtnedafiokmjkkaaGreatDoorsaHdCheck
namespace Go.Proofs.YtnedafiokmjkkaaGreatDoor
open Tryz
set_option maxRecDepth 1000000
set_option maxHeartbeats 8000000
open Go.RowKit
variable {B N g i:Nat} {w w' w1:World} {t:TypeId} {v:Value} {ps:List KnR} {cs:List Value} {c:Cl}
def Qed (a b:Int):Int:=if a<b then -1 else if b<a then 1 else 0
theorem Qrv (a b:Int):Qed a b<0↔a<b:=by unfold Qed;split <;> (try split) <;> omega
theorem QpH (a b:Int):Qed a b=0↔a=b:=by unfold Qed;split <;> (try split) <;> omega
theorem Qej (a:Int) (w:World):Calls prog 74 #[Bb a] w fun e w'=>e=.returned (.bool false)∧w'=w:=by
 have e1:(a != a)=false:=by simp
 go_in
 go_wp2;go_ret;exact ⟨by simp;first | done | rfl,rfl⟩
theorem Qku (a b:Int) (w:World):Calls prog 42 #[Bb a,Bb b] w fun e w'=>e=.returned (Bb (Qed a b))∧w'=w:=by
 by_cases h1:a<b
 ·have e1:decide (a<b)=true:=by simp;omega
  have HC:=hid (show Qed a b = -1 by unfold Qed;rw [if_pos h1])
  clear h1
  go_in
  go_wp2_with (go_at_call 74;refine (Qej _ _).mono ?_;rintro e w' ⟨rfl,hw⟩;obtain rfl:=hw.symm)
  go_ret;exact ⟨by rw [HC.out];first | done | rfl,rfl⟩
 ·have e1:decide (a<b)=false:=by simp;omega
  by_cases h2:b<a
  ·have e2:decide (b<a)=true:=by simp;omega
   have HC:=hid (show Qed a b=1 by unfold Qed;rw [if_neg h1,if_pos h2])
   clear h1 h2
   go_in
   go_wp2_with (go_at_call 74;refine (Qej _ _).mono ?_;rintro e w' ⟨rfl,hw⟩;obtain rfl:=hw.symm)
   go_ret;exact ⟨by rw [HC.out];first | done | rfl,rfl⟩
  ·have e2:decide (b<a)=false:=by simp;omega
   have HC:=hid (show Qed a b=0 by unfold Qed;rw [if_neg h1,if_neg h2])
   clear h1 h2
   go_in
   go_wp2_with (go_at_call 74;refine (Qej _ _).mono ?_;rintro e w' ⟨rfl,hw⟩;obtain rfl:=hw.symm)
   go_ret;exact ⟨by rw [HC.out];first | done | rfl,rfl⟩
theorem QeM (k:Kn) (h:Int) (v:Value) (N:Nat) (w:World) (hv:KnV w N v k) :
  Calls prog 184 #[v,Bb h] w fun e w'=>e=.returned (Bb (Qed k.height h))∧Bd w w':=by
 obtain ⟨rv,nv,rfl,g1,g2⟩:=hv;obtain ⟨o1,c1,rfl,_⟩:=g1.shape;obtain ⟨o2,c2,rfl,_⟩:=g2.shape;clear g1 g2;obtain ⟨w1,b⟩:∃ w1,w.alloc (.cells #[Bb k.height,Bb k.time,.slice o1 k.root.length c1,.slice o2 k.next.length c2] 31)=w1:=⟨_,rfl⟩;have j:=hid (show Bd w w1 by rw [← b];exact (Bi _ _).alloc (Bj _) _)
 have g0:=(show Row w1 w.heap.size 31 [Bb k.height,Bb k.time,.slice o1 k.root.length c1,.slice o2 k.next.length c2] by rw [← b];exact Row.new _ _ _).cell 0
 have HC:=hid (Qku k.height h w1);have HW:=hid b;clear b;generalize Qed k.height h=cc at *
 go_in
 go_wp2_with fail
 rw [HW.out];refine HC.out.mono ?_;rintro e w2 ⟨rfl,m⟩;obtain rfl:=m.symm;go_wp2;go_ret;exact ⟨rfl,j.out⟩
theorem QmH (l:List Kn) (k:Int) (sv:Value) (N:Nat) (w:World) (hN:N≤w.heap.size) (hl:Jj w N sv l) (hs:Yk l) (j:l.length≤1000000) :
  Calls prog 183 #[sv,Bb k,.func (.func 184) #[] #[]] w fun e w'=>Bd w w'∧∃ i fd,AtI k l i fd∧e=.returned (.tuple #[Bb (i:Nat),.bool fd]):=by
 obtain ⟨ps,rfl,hl,m⟩:=hl;refine (Qh7.1.list Y9 (fun v:Kn=>Qed v.height k) (ps.map (·.k)) _ (fun _ _=>rfl) hN hl (by simp [JS]) (by simp) j (hs.imp fun h=>by grind [Qed]) fun i r p W hr hp hb=>?_).mono ?_
 ·rw [Bs] at hr hp
  obtain ⟨q,hq,rfl⟩:∃ q,ps[i]?=some q∧JS q=r:=by simpa using hr
  obtain rfl:q.k=p:=by simpa [hq] using hp
  have b:=(m q (Bn hq)).below (hb.mono hN);exact QeM q.k k _ N W ⟨q.r,q.n,rfl,b.1,b.2⟩
 ·rintro e w' ⟨hb,i,fd,h,rfl⟩
  exact ⟨hb,i,fd,by simpa [AtL,AtI,Qrv,QpH,← Int.not_lt] using h,rfl⟩
theorem Qof {a b:Kn} (h:a.time≠b.time):QdZ a b=false:=by simp [QdZ,h]
theorem Qoe {a b:Kn} (h:a.root≠b.root):QdZ a b=false:=by simp [QdZ,h]
theorem Qod {a b:Kn} (h:a.time=b.time) (h2:a.root=b.root):QdZ a b=decide (a.next=b.next):=by simp [QdZ,h,h2]
theorem Qos (a b:Kn) (va vb:Value) (N:Nat) (w:World) (ha:KnV w N va a) (hb:KnV w N vb b) (hN:N≤w.heap.size) :
  Calls prog 185 #[va,vb] w fun e w'=>e=.returned (.bool (!QdZ a b))∧Bd w w':=by
 obtain ⟨rv,nv,rfl,g1,g2⟩:=ha;obtain ⟨o1,c1,rfl,_⟩:=g1.shape;obtain ⟨o2,c2,rfl,_⟩:=g2.shape;obtain ⟨rv',nv',rfl,g3,g4⟩:=hb;obtain ⟨o3,c3,rfl,_⟩:=g3.shape;obtain ⟨o4,c4,rfl,_⟩:=g4.shape;obtain ⟨w0,m⟩:∃ w0,(w.alloc (.cells #[Bb a.height,Bb a.time,.slice o1 a.root.length c1,.slice o2 a.next.length c2] 31)).alloc (.cells #[Bb b.height,Bb b.time,.slice o3 b.root.length c3,.slice o4 b.next.length c4] 31)=w0:=⟨_,rfl⟩;have j:Bd w w0:=by rw [← m];exact ((Bi _ _).alloc (Bj _) _).alloc (by simp) _
 have A:=hid j;have D:Row w0 w.heap.size 31 [Bb a.height,Bb a.time,.slice o1 a.root.length c1,.slice o2 a.next.length c2]:=by rw [← m];exact (Row.new _ _ _).alloc _
 have E:Row w0 (w.heap.size+1) 31 [Bb b.height,Bb b.time,.slice o3 b.root.length c3,.slice o4 b.next.length c4]:=by rw [← m];exact Row.newAt _ _ _ _ (by simp)
 obtain ⟨⟨y0,y1,y2,y3⟩,_⟩:=D.four;obtain ⟨⟨x0,x1,x2,x3⟩,_⟩:=E.four;have z:=hid (YD a.root b.root (.slice o1 a.root.length c1) (.slice o3 b.root.length c3) N N w0 (g1.below (j.mono hN)) (g3.below (j.mono hN)));have G:=hid (YD a.next b.next (.slice o2 a.next.length c2) (.slice o4 b.next.length c4) N N w0 (g2.below (j.mono hN)) (g4.below (j.mono hN)));have C:=hid m;clear m j D E g1 g2 g3 g4
 by_cases h1:a.time=b.time
 ·have e1:(a.time != b.time)=false:=by simp [h1]
  by_cases h2:a.root=b.root
  ·have HS:=hid (Qod h1 h2)
   rw [BB h2] at z;generalize a.root.length=n1 at *;generalize b.root.length=n3 at *;generalize a.next.length=n2 at *;generalize b.next.length=n4 at *;generalize decide (a.next=b.next)=dd at *;clear h1 h2
   go_in
   go_wp2_with fail
   rw [C.out];refine z.out.mono ?_;rintro e w2 ⟨rfl,q⟩;obtain rfl:=q.symm
   go_wp2_with fail
   refine G.out.mono ?_;rintro e w2 ⟨rfl,q⟩;obtain rfl:=q.symm;go_wp2;go_ret;exact ⟨by rw [HS.out];first | done | rfl,A.out⟩
  ·have HS:=hid (Qoe h2)
   rw [BD h2] at z;generalize a.root.length=n1 at *;generalize b.root.length=n3 at *;clear h1 h2
   go_in
   go_wp2_with fail
   rw [C.out];refine z.out.mono ?_;rintro e w2 ⟨rfl,q⟩;obtain rfl:=q.symm;go_wp2;go_ret;exact ⟨by rw [HS.out];first | done | rfl,A.out⟩
 ·have e1:(a.time != b.time)=true:=by simpa using h1
  have HS:=hid (Qof h1);clear h1
  go_in
  go_wp2_with fail
  rw [C.out];go_ret;exact ⟨by rw [HS.out];first | done | rfl,A.out⟩
theorem QjI (l:List Kn) (t:Int):Qqk l 0 t=true:=rfl
theorem Qql {l:List Kn} {j:Nat} {k:Kn} (t:Int) (h:l[j]?=some k):Qqk l (j+1) t=decide (k.time<t):=by unfold Qqk;simp only [h]
theorem QnJ {l:List Kn} {k:Kn} (t:Int) (h:l[i]?=some k):Qgd l i t=decide (t<k.time):=by unfold Qgd;rw [h]
theorem Qp0 {l:List Kn} (t:Int) (h:l.length≤i):Qgd l i t=true:=by unfold Qgd;rw [Dr h]
theorem QnK (l:List Kn) (i:Nat) (t:Int) (v:Value) (N:Nat) (w:World) (hv:Jj w N v l) (hi:i≤l.length) (hl:l.length≤1000000) :
  Calls prog 186 #[v,Bb (i:Int),Bb t] w fun e w'=>e=.returned (.bool (Qqk l i t && Qgd l i t))∧w'=w:=by
 obtain ⟨oa,ca,rfl,hca⟩:=hv.shape;have HV:=hid hv;clear hv;generalize hn:l.length=n at *;have HN:=hid hn;clear hn
 have G:=hid (show ∃ hb:Bool,Qgd l i t=hb∧(i=n∧hb=true∨i<n∧∃ b o k,oa=some ⟨b,o,none⟩∧w.cell? ⟨b,o+i*4+1,none⟩=some (Bb k)∧hb=decide (t<k)) by
  by_cases he:i=n
  ·exact ⟨true,Qp0 t (by rw [HN.out];omega),.inl ⟨he,rfl⟩⟩
  ·obtain ⟨k,hk⟩:∃ k,l[i]?=some k:=⟨l[i]'(by rw [HN.out];omega),Bk _⟩
   obtain ⟨b,o,A,q⟩:=HV.out.spot (by omega)
   obtain ⟨_,_,_,_,d1,_⟩:=q i k hk
   exact ⟨_,QnJ t hk,.inr ⟨by omega,b,o,k.time,A,d1,rfl⟩⟩)
 obtain ⟨hb,I,z⟩:=G.out;have C:=hid I;clear G I
 cases i with
 | zero =>
  have e0:((0:Int) == 0)=true:=by decide
  rcases z with ⟨he,rfl⟩ | ⟨M,b,o,k,rfl,d1,rfl⟩
  ·subst he
   go_in
   go_wp2;go_ret;exact ⟨by rw [QjI,C.out];first | done | rfl,rfl⟩
  ·have e1:((0:Int) == (n:Int))=false:=by simp;omega
   have e1':((n:Int) == 0)=false:=by simp;omega
   have e2:(0:Int)<(n:Int):=by omega
   have e3:¬ n=0:=by omega
   have d1':w.cell? ⟨b,o+1,none⟩=some (Bb k):=by simpa using d1
   go_in
   go_wp2;go_ret;exact ⟨by rw [QjI,C.out];first | done | rfl,rfl⟩
 | succ j =>
  obtain ⟨x,hx⟩:∃ x,l[j]?=some x:=⟨l[j]'(by rw [HN.out];omega),Bk _⟩
  obtain ⟨b,o,A,q⟩:=HV.out.spot (by omega)
  obtain ⟨_,_,_,_,f1,_⟩:=q j x hx;subst A;have E:=hid (Qql t hx);have e0:(((j+1:Nat):Int) == 0)=false:=by simp;omega
  have L:((j+1:Nat):Int)-1=(j:Int):=by omega
  have hj2:IntKind.i64.wrap (((j+1:Nat):Int)-1)=(j:Int):=by rw [L,Cd];omega
  have hjn:(j:Int)<(n:Int):=by omega
  clear q hx L;generalize x.time=xt at *
  by_cases D:xt<t
  ·have g1:decide (xt<t)=true:=by simpa using D
   rcases z with ⟨he,rfl⟩ | ⟨M,b',o',k,A,d1,rfl⟩
   ·have e1:(((j+1:Nat):Int) == (n:Int))=true:=by simp;omega
    generalize hm:((j+1:Nat):Int)=m at *
    go_in
    go_wp2;go_ret;exact ⟨by rw [E.out,C.out,g1];first | done | rfl,rfl⟩
   ·obtain ⟨rfl,rfl⟩:b=b'∧o=o':=by simpa using A
    have e1:(((j+1:Nat):Int) == (n:Int))=false:=by simp;omega
    have e2:((j+1:Nat):Int)<(n:Int):=by omega
    clear A;generalize hm:j+1=m at *;clear hm
    go_in
    go_wp2;go_ret;exact ⟨by rw [E.out,C.out,g1];first | done | rfl,rfl⟩
  ·have g1:decide (xt<t)=false:=by simpa using D
   clear z;generalize hm:((j+1:Nat):Int)=m at *;clear hm
   go_in
   go_wp2;go_ret;exact ⟨by rw [E.out,g1];first | done | rfl,rfl⟩
theorem JN.other {base:Nat} (h:JN w base v ps) (hr:Row w g t cs) (ht:t≠31) (b:t≠5) (ho:∀ j,j≠g→w'.heap[j]?=w.heap[j]?):JN w' base v ps :=
 ⟨⟨h.1.1,Z3 h.1.2 hr ht ho⟩,fun q hq=>⟨Z3 (h.2 q hq).1 hr b ho,Z3 (h.2 q hq).2 hr b ho⟩⟩
theorem Qqd {k o:Kn} (h:atK c.known k.height=some o):Yv c k={ c with frozen:=!QdZ o k }:=by unfold Yv;rw [h]
theorem QnO {k:Kn} (h:atK c.known k.height=none) (h2:Qj3 c.known k.height k.time=false):Yv c k={ c with frozen:=true }:=by unfold Yv;rw [h];simp [h2]
theorem Qqc {k:Kn} (h:atK c.known k.height=none) (h2:Qj3 c.known k.height k.time=true):Yv c k={ c with known:=QeO (Qer c.known k) }:=by unfold Yv;rw [h];simp [h2]
theorem FrB.sub {l l':List Bx} (F:FrB B w l w1) (h:l'.Sublist l):FrB B w l' w1:=⟨F.b,fun r hr=>F.rows r (h.subset hr),fun r hr=>F.own r (h.subset hr),F.apart.sublist h,F.z⟩
theorem JN.only {base:Nat} (h:JN w base v ps) (hr:Row w g 78 cs) (O:JJ g w w'):JN w' base v ps:=h.other hr (by decide) (by decide) O.same
theorem Qqb (c:Cl) (ps:List KnR) (q:KnR) (o:Option Addr) (m base:Nat) (w:World) (hc:ps.map (·.k)=c.known) (aR:c.frozen=false) (C:JN w base (.slice o ps.length m) ps) (hq:Qq w base q.r q.k.root∧Qq w base q.n q.k.next) (hb:base≤w.heap.size) (hs:Yk c.known) (h30:ps.length≤30) :
  Calls prog 140 #[.agg #[.string c.chain,Bb c.trust,.bool false,.slice o ps.length m],.agg #[Bb q.k.height,Bb q.k.time,q.r,q.n]] w fun e w'=>Below base w w'∧∃ o' n' m',e=.returned (.agg #[.string c.chain,Bb c.trust,.bool (Yv c q.k).frozen,.slice o' n' m'])∧YQ w' base (.slice o' n' m') (Yv c q.k).known:=by
 obtain ⟨qk,qr,qn⟩:=q;obtain ⟨o1,c1,rfl,-⟩:∃ o1 c1,qr=.slice o1 qk.root.length c1∧True:=by obtain ⟨a,b,h,-⟩:=hq.1.shape;exact ⟨a,b,h,trivial⟩
 obtain ⟨o2,c2,rfl,-⟩:∃ o2 c2,qn=.slice o2 qk.next.length c2∧True:=by obtain ⟨a,b,h,-⟩:=hq.2.shape;exact ⟨a,b,h,trivial⟩
 have aX:=hid (show YQ w base (.slice o ps.length m) c.known from ⟨ps,C,hc⟩);have HO:=hid (fun W (hx:Bd w W)=>show JN W base (.slice o ps.length m) ps∧Qq W base (.slice o1 qk.root.length c1) qk.root∧Qq W base (.slice o2 qk.next.length c2) qk.next from ⟨C.below hx,QW hq.1 hx,QW hq.2 hx⟩)
 have aB:=hid (fun W (hx:Bd w W)=>show Jj W W.heap.size (.slice o ps.length m) c.known by have:=(C.below hx).knowns;rw [hc] at this;exact this)
 have HC:=hid hc;have HS:=hid hs;have L:=hid (show ps.length=c.known.length by rw [← hc];simp)
 have aO:=hid (fun W (hx:Bd w W)=>QmH c.known qk.height (.slice o ps.length m) W.heap.size W (Bj _) (aB.out W hx) hs (by rw [← L.out];omega))
 clear C hq hs hc;generalize hn:ps.length=n at *;have HN:=hid hn;clear hn
 go_in
 go_upto_region 1 with fail
 refine JR ?_;intro w0 F0 hs;clear hs;have k0:=F0.r0.cell;have k1:=F0.r1.cell
 go_wp2_with fail
 refine (aO.out _ F0.b).mono ?_;rintro e w1 ⟨aP,i,fd,aF,rfl⟩;have F:=F0.go aP;have G:=hid aF;have a3:i≤n:=by have:=aF.1;rw [← L.out] at this;exact this
 clear aP aF k0 k1 F0 aO
 have LV:∀ fz w2,Fr w [(w.heap.size,78,[.string c.chain,Bb c.trust,.bool fz,.slice o n m]),(w.heap.size+1,31,[Bb qk.height,Bb qk.time,.slice o1 qk.root.length c1,.slice o2 qk.next.length c2]),(w.heap.size+1+1,78,[.string c.chain,Bb c.trust,.bool fz,.slice o n m])] w2→Yv c qk={ c with frozen:=fz }→Below base w w2∧∃ o' n' m',Ending.returned (.agg #[.string c.chain,Bb c.trust,.bool fz,.slice o n m])=.returned (.agg #[.string c.chain,Bb c.trust,.bool (Yv c qk).frozen,.slice o' n' m'])∧YQ w2 base (.slice o' n' m') (Yv c qk).known:=fun fz w2 F e=>⟨F.b.mono hb,o,n,m,by rw [e],by rw [e];exact aX.out.below F.b⟩
 have aC:=hid LV;clear LV
 cases fd with
 | true =>
  obtain ⟨x,hx,-,aA⟩:=G.out.yes HS.out;have j:=hid (Qqd (c:=c) (k:=qk) aA);have hilt:i<n:=by have:=(Bm.1 hx).1;rw [← L.out] at this;exact this
  obtain ⟨b,T,rfl,A⟩:=(aB.out w1 F.b).spot (by omega)
  obtain ⟨O,vr,vn,f0,f1,f2,f3,g2,g3⟩:=A i x hx;obtain ⟨o3,c3,rfl,-⟩:=g2.shape;obtain ⟨o4,c4,rfl,-⟩:=g3.shape
  have aY:=hid (fun wx (hx:Bd w1 wx)=>by
   have hq:=HO.out wx (F.b.trans (hx.mono F.b.size))
   exact Qos x qk _ _ wx.heap.size wx ⟨_,_,rfl,(g2.below hx).mono hx.size,(g3.below hx).mono hx.size⟩ ⟨_,_,rfl,hq.2.1.bytes,hq.2.2.bytes⟩ (Bj _))
  have hil':(i:Int)<(n:Int):=by omega
  have HX:=hid (fun W (hx:Bd w1 W)=>And.intro ((hx.cell (p:=⟨b,T+i*4,none⟩) O).trans f0) (And.intro ((hx.cell (p:=⟨b,T+i*4+1,none⟩) O).trans f1) (And.intro ((hx.cell (p:=⟨b,T+i*4+2,none⟩) O).trans f2) ((hx.cell (p:=⟨b,T+i*4+3,none⟩) O).trans f3))))
  go_upto_region 3 with fail
  have HF:=hid F;clear F A g2 g3 hx aA f0 f1 f2 f3;generalize (!QdZ x qk)=fz at *;apply JT 8 (by kernel_rfl) (fun W hb=>And.intro (HF.out.go hb).r0.cell (And.intro (HF.out.go hb).r1.cell (HX.out W hb))) (by kernel_rfl)
  ·intro σ;simp [Ql];exact rfl
  iterate 6 (apply RK.val rfl;· intro σ W hb hc ⟨hd,hu⟩;simp at hd hu;go_simp;exact rfl)
  apply RK.callV rfl
  ·intro σ W hb hc ⟨hd,hu⟩;simp at hd hu;go_simp;exact ⟨rfl,rfl⟩
  ·intro W hb hc;exact aY.out W hb
  apply RK.val rfl;· intro σ W hb hc ⟨hd,hu⟩;simp at hd hu;go_simp;exact rfl
  intro σ W hb _;simp only [JE,Bv,By,Nat.reduceAdd];intro hF;obtain ⟨-,-,-,-,-,-,e6,e7,-⟩:=hF;have F:=HF.out.go hb;have k0:=F.r0.cell;have z2:=F.r0.frozen 2;simp only [BU,BS,e6,e7];clear hb e6 e7
  go_upto_region 4 with fail
  refine F.cell 0 rfl ?_;intro w5 F5 O5;clear k0 z2 F O5
  go_wp2_with (first | refine F5.load 0 rfl Qm ?_ | (refine F5.store 2 rfl Qm (by simp) ?_;intro w6 F6 O6))
  exact Qfe results140 rfl F6.r2 Qm rfl (aC.out fz _ F6 j.out)
 | false =>
  have S:=G.out.no HS.out;have D:=hid (QnK c.known i qk.time (.slice o n m) w1.heap.size w1 (aB.out _ F.b) G.out.1 (by rw [← L.out];omega))
  rw [← G.out.time HS.out] at D;have k0:=F.r0.cell;have k1:=F.r1.cell;have z2:=F.r0.frozen 2
  cases ht:Qj3 c.known qk.height qk.time with
  | false =>
   have j:=hid (QnO S.1 ht);rw [ht] at D;clear S ht
   go_wp2_with fail
   refine D.out.mono ?_;rintro e w5 ⟨rfl,rfl⟩
   go_upto_region 7 with fail
   refine F.cell 0 rfl ?_;intro w5 F5 O5;clear k0 k1 z2 F O5
   go_wp2_with (first | refine F5.load 0 rfl Qm ?_ | (refine F5.store 2 rfl Qm (by simp) ?_;intro w6 F6 O6))
   exact Qfe results140 rfl F6.r2 Qm rfl (aC.out true _ F6 j.out)
  | true =>
   have j:=hid (Qqc S.1 ht);have I:=hid (G.out.put (k:=qk) HS.out);rw [ht] at D;clear S ht aC
   go_wp2_with fail
   refine D.out.mono ?_;rintro e w5 ⟨rfl,rfl⟩
   go_wp2_with fail
   refine Qb4 ?_;intro w2 aT aQ;have F2:=F.go aQ;have hO:=HO.out _ F2.b;have a5:=Bh hb F2.b.size;clear k0 k1 z2 D
   refine (QkK (ps.map JS) i (JS ⟨qk,.slice o1 qk.root.length c1,.slice o2 qk.next.length c2⟩) base w5.heap.size (.slice o n m) w2 hO.1.1 a5 aT (KnR.ok.row (w:=w2) (N:=w2.heap.size) ⟨hO.2.1.bytes,hO.2.2.bytes⟩)
    (fun g hg=>by have:=((HO.out _ F.b).1.1.2.lt g hg).2;omega) (by rw [Bp,HN.out];exact a3) (by rw [Bp,HN.out];omega)).mono ?_
   rintro e w3 ⟨aG,v3,rfl,z⟩;rw [Qqn] at z
   have aK:=hO.1.past aG z (fun q hq=>by
    rcases Bw.1 hq with hq | hq
    ·exact .inl (DL hq)
    ·rcases Bo.1 hq with rfl | hq
     ·exact .inr hO.2
     ·exact .inl (Dt hq))
   have aJ:(ps.take i ++ (⟨qk,.slice o1 qk.root.length c1,.slice o2 qk.next.length c2⟩:KnR) :: ps.drop i).map (·.k)=Qer c.known qk:=by
    rw [I.out,← HC.out,Cc,CG,List.map_take,List.map_drop]
   have aI:(ps.take i ++ (⟨qk,.slice o1 qk.root.length c1,.slice o2 qk.next.length c2⟩:KnR) :: ps.drop i).length=n+1:=by
    have:=HN.out;simp;omega
   generalize (ps.take i ++ (⟨qk,.slice o1 qk.root.length c1,.slice o2 qk.next.length c2⟩:KnR) :: ps.drop i)=ps' at *;obtain ⟨o',m',rfl,-⟩:=aK.shape;have a4:=HN.out;have aE:=hid (show (ps'.map (·.k)).length=n+1 by rw [Bp,aI])
   have aM:=hid (show QeO (Qer c.known qk)=if 30<n+1 then (Qer c.known qk).drop 1 else Qer c.known qk by
    unfold QeO;rw [show (Qer c.known qk).length=n+1 by rw [← aJ,Bp,aI]])
   have aN:=hid aJ;have aU:=hid aK
   have F3:=((F2.low hb).sub (.cons_cons _ (.cons _ (.cons_cons _ .slnil)))).grow aG (fun k e=>(hO.1.1.2.lt k e).1) (fun g hg=>by
    simp at hg
    rcases hg with rfl | rfl
    ·exact hO.1.1.apart F2.r0 (by decide)
    ·exact hO.1.1.apart F2.r2 (by decide))
   generalize ps'.length=n' at *;subst aI;have k0:=F3.r0.cell;have z0:=F3.r0.frozen 3;clear aG z aK F F2 hO aT aQ aJ a4
   go_upto_region 9 with fail
   refine F3.cell 0 rfl ?_;intro w4 F4 O4;have E:=hid (aU.out.only F3.r0 O4);have k1:=F4.r0.cell;have z1:=F4.r0.frozen 3;clear k0 z0 F3 O4
   by_cases M:30<n+1
   ·have aD:=hid (show (ps'.take 0 ++ ps'.drop (0+1)).map (·.k)=QeO (Qer c.known qk) by rw [aM.out,if_pos M,← aN.out];simp)
    have Y:=hid (show Calls prog 188 #[.slice o' (n+1) m',Bb 0,Bb 1] w4 _ from QkB (ps'.map JS) 0 base (.slice o' (n+1) m') w4 E.out.1 (by have:=aE.out;rw [Bp] at this ⊢;omega) 1 rfl)
    have HD:=hid (fun v w' (hg:w4.grownBy w' (Value.slice o' (n+1) m').ownBlock) (hr:J6 w' base v ((ps'.map JS).take 0 ++ (ps'.map JS).drop (0+1)))=>by
     rw [Qqm] at hr
     exact E.out.past hg hr (fun q hq=>by
      rcases Bw.1 hq with hq | hq
      ·exact .inl (DL hq)
      ·exact .inl (Dt hq)))
    have aZ:decide ((30:Int)<((n+1:Nat):Int))=true:=BB (by omega)
    clear M I aE;generalize n+1=n1 at *
    go_wp2_with fail
    refine Y.out.mono ?_;rintro e w5 ⟨aH,v5,rfl,aS⟩;have aL:=HD.out _ _ aH aS;obtain ⟨o5,m5,rfl,-⟩:=aL.shape
    have F5:=F4.grow aH (fun k e=>(E.out.1.2.lt k e).1) (fun g hg=>by
     simp at hg
     rcases hg with rfl | rfl
     ·exact E.out.1.apart F4.r0 (by decide)
     ·exact E.out.1.apart F4.r1 (by decide))
    have aV:=hid aL;clear aS aL aH k1 z1 F4 Y HD;generalize (ps'.take 0 ++ ps'.drop (0+1))=p5 at *;generalize hl5:p5.length=n5 at *;have k0:=F5.r0.cell;have z0:=F5.r0.frozen 3
    go_upto_region 11 with fail
    refine F5.cell 0 rfl ?_;intro w6 F6 O6;have aW:=hid (aV.out.only F5.r0 O6);clear k0 z0 F5 O6
    go_wp2_with (first | refine F6.load 0 rfl Qm ?_ | (refine F6.store 1 rfl Qm (by simp) ?_;intro w7 F7 O7))
    refine Qfe results140 rfl F7.r1 Qm rfl ⟨F7.b,o5,n5,m5,by rw [j.out,aR];rfl,?_⟩
    rw [j.out];exact ⟨p5,aW.out.only F6.r1 O7,aD.out⟩
   ·have aD:=hid (show ps'.map (·.k)=QeO (Qer c.known qk) by rw [aM.out,if_neg M,aN.out])
    have aZ:decide ((30:Int)<((n+1:Nat):Int))=false:=BD (by omega)
    clear k1 z1 M I aE;have k1:=F4.r0.cell;generalize n+1=n1 at *
    go_wp2_with (first | refine F4.load 0 rfl Qm ?_ | (refine F4.store 1 rfl Qm (by simp) ?_;intro w7 F7 O7))
    refine Qfe results140 rfl F7.r1 Qm rfl ⟨F7.b,o',n1,m',by rw [j.out,aR];rfl,?_⟩
    rw [j.out];exact ⟨ps',E.out.only F4.r1 O7,aD.out⟩
def QiL (a b:Bg):Int:=if a=b then 0 else 8
theorem QoS (a b:Bg) (va vb:Value) (N M:Nat) (w:World) (ha:Bytes w N va a) (hb:Bytes w M vb b) :
  Calls prog 180 #[va,vb] w fun e w'=>e=.returned (Bb (QiL a b))∧w'=w:=by
 have HE:=hid (YD a b va vb N M w ha hb);obtain ⟨o1,c1,rfl,_⟩:=ha.shape;obtain ⟨o2,c2,rfl,_⟩:=hb.shape;clear ha hb
 by_cases h:a=b
 ·have HF:=hid (show QiL a b=0 by unfold QiL;rw [if_pos h])
  rw [BB h] at HE;generalize a.length=n1 at *;generalize b.length=n2 at *;clear h
  go_in
  go_wp2_with fail
  refine HE.out.mono ?_;rintro e w2 ⟨rfl,j⟩;obtain rfl:=j.symm;go_wp2;go_ret;exact ⟨by rw [HF.out];first | done | rfl,rfl⟩
 ·have HF:=hid (show QiL a b=8 by unfold QiL;rw [if_neg h])
  rw [BD h] at HE;generalize a.length=n1 at *;generalize b.length=n2 at *;clear h
  go_in
  go_wp2_with fail
  refine HE.out.mono ?_;rintro e w2 ⟨rfl,j⟩;obtain rfl:=j.symm;go_wp2;go_ret;exact ⟨by rw [HF.out];first | done | rfl,rfl⟩
def QeY (k:Kn) (u:Up):Int:=if JD u.trusted≠0 then JD u.trusted else if QcJ u.trusted≠k.next then 8 else if QjR u.trusted u.sg=false then 10 else 0
theorem Row.ten {a b c d e f x z u:Value} (h:Row w g t [a,b,c,d,e,f,x,v,z,u]) :
  (w.cell? ⟨g,0,none⟩=some a∧w.cell? ⟨g,1,none⟩=some b∧w.cell? ⟨g,2,none⟩=some c∧w.cell? ⟨g,3,none⟩=some d∧w.cell? ⟨g,4,none⟩=some e)∧w.cell? ⟨g,5,none⟩=some f∧w.cell? ⟨g,6,none⟩=some x∧w.cell? ⟨g,7,none⟩=some v∧w.cell? ⟨g,8,none⟩=some z∧w.cell? ⟨g,9,none⟩=some u :=
 ⟨⟨h.cell 0,h.cell 1,h.cell 2,h.cell 3,h.cell 4⟩,h.cell 5,h.cell 6,h.cell 7,h.cell 8,h.cell 9⟩
theorem UpV.open {u:Up} (h:UpV w N v u):∃ o1 c1 o2 c2 o3 c3 o4 c4 o5 c5 o6 c6,v=.agg #[Bb u.frm,.string u.sg.hd.chain,Bb u.sg.hd.height,Bb u.sg.hd.time,.slice o1 u.sg.hd.root.length c1,.slice o2 u.sg.hd.vals.length c2,.slice o3 u.sg.hd.next.length c3,.slice o4 u.sg.vals.length c4,.slice o5 u.sg.votes.length c5,.slice o6 u.trusted.length c6] ∧
  Bytes w N (.slice o1 u.sg.hd.root.length c1) u.sg.hd.root∧Bytes w N (.slice o2 u.sg.hd.vals.length c2) u.sg.hd.vals∧Bytes w N (.slice o3 u.sg.hd.next.length c3) u.sg.hd.next∧ZD w N (.slice o4 u.sg.vals.length c4) u.sg.vals∧ZE w N (.slice o5 u.sg.votes.length c5) u.sg.votes∧ZD w N (.slice o6 u.trusted.length c6) u.trusted:=by
 obtain ⟨x0,x1,x2,x3,x4,x5,x6,x7,tv,rfl,⟨rv,vv,nv,lv,sv,he,h1,h2,h3,h4,h5⟩,h6⟩:=h;obtain ⟨o1,c1,rfl,_⟩:=h1.shape;obtain ⟨o2,c2,rfl,_⟩:=h2.shape;obtain ⟨o3,c3,rfl,_⟩:=h3.shape;obtain ⟨o4,c4,rfl,_⟩:=h4.shape;obtain ⟨o5,c5,rfl,_⟩:=h5.shape;obtain ⟨o6,c6,rfl,_⟩:=h6.shape;simp at he;obtain ⟨rfl,rfl,rfl,rfl,rfl,rfl,rfl,rfl⟩:=he;exact ⟨o1,c1,o2,c2,o3,c3,o4,c4,o5,c5,o6,c6,rfl,h1,h2,h3,h4,h5,h6⟩
theorem Qsd (k:Kn) (u:Up) (kv uv:Value) (N:Nat) (w:World) (L:Qi w) (hN:N≤w.heap.size) (hk:KnV w N kv k) (hu:UpV w N uv u) (hf:u.fits) (G:Zu u.sg=0) :
  Calls prog 181 #[kv,uv] w fun e w'=>e=.returned (Bb (QeY k u))∧Bd w w':=by
 obtain ⟨rv,nv,rfl,g1,g2⟩:=hk;obtain ⟨p1,d1,rfl,_⟩:=g1.shape;obtain ⟨p2,d2,rfl,_⟩:=g2.shape;obtain ⟨o1,c1,o2,c2,o3,c3,o4,c4,o5,c5,o6,c6,rfl,h1,h2,h3,h4,h5,h6⟩:=hu.open;obtain ⟨aV,aW,aJ⟩:=hf;obtain ⟨w0,C⟩:∃ w0,(w.alloc (.cells #[Bb k.height,Bb k.time,.slice p1 k.root.length d1,.slice p2 k.next.length d2] 31)).alloc (.cells #[Bb u.frm,.string u.sg.hd.chain,Bb u.sg.hd.height,Bb u.sg.hd.time,.slice o1 u.sg.hd.root.length c1,.slice o2 u.sg.hd.vals.length c2,.slice o3 u.sg.hd.next.length c3,.slice o4 u.sg.vals.length c4,.slice o5 u.sg.votes.length c5,.slice o6 u.trusted.length c6] 39)=w0:=⟨_,rfl⟩;have E:Bd w w0:=by rw [← C];exact ((Bi _ _).alloc (Bj _) _).alloc (by simp) _
 have aK:Row w0 w.heap.size 31 [Bb k.height,Bb k.time,.slice p1 k.root.length d1,.slice p2 k.next.length d2]:=by rw [← C];exact (Row.new _ _ _).alloc _
 have T:Row w0 (w.heap.size+1) 39 [Bb u.frm,.string u.sg.hd.chain,Bb u.sg.hd.height,Bb u.sg.hd.time,.slice o1 u.sg.hd.root.length c1,.slice o2 u.sg.hd.vals.length c2,.slice o3 u.sg.hd.next.length c3,.slice o4 u.sg.vals.length c4,.slice o5 u.sg.votes.length c5,.slice o6 u.trusted.length c6]:=by rw [← C];exact Row.newAt _ _ _ _ (by simp)
 have aQ:=hid (show SgV w N (.agg #[.string u.sg.hd.chain,Bb u.sg.hd.height,Bb u.sg.hd.time,.slice o1 u.sg.hd.root.length c1,.slice o2 u.sg.hd.vals.length c2,.slice o3 u.sg.hd.next.length c3,.slice o4 u.sg.vals.length c4,.slice o5 u.sg.votes.length c5]) u.sg from ⟨_,_,_,_,_,rfl,h1,h2,h3,h4,h5⟩);have HT:=hid h6;have aO:=hid g2;have I:=hid L;have b:=hid E;have aE:=hid aK;have S:=hid T;have aD:=hid aJ;have HCK:=hid G;have aF:=hid (Qu1 u.trusted (.slice o6 u.trusted.length c6) N w0 (h6.below (E.mono hN)) (Bh hN E.size) aW);have aS:=hid (QaJ G).2;have aR:=hid (Qjk G).2.1;have aG:=hid C;have k9:=T.cell 9;simp at k9;clear g1 g2 h1 h2 h3 h4 h5 h6 L E aK T aJ G C aV
 by_cases hv:JD u.trusted=0
 ·have A:=hid hv
  have aT:=hid (Zn hv)
  have aL:=hid (show ∀ wx,Bd w0 wx→Calls prog 215 #[.slice o6 u.trusted.length c6] wx fun e w'=>∃ x,e=.returned x∧Bytes w' w'.heap.size x (QcJ u.trusted)∧Bd wx w' from fun wx hx=>by
   have j:=b.out.trans (hx.mono b.out.size)
   exact QoQ u.trusted _ N wx (I.out.below j I.out.lt) (HT.out.below (j.mono hN)) (Bh hN j.size) aT.out.2.1 aD.out)
  have aN:=hid (show ∀ (wx:World) (M:Nat) (x:Value),Bd w0 wx→Bytes wx M x (QcJ u.trusted)→Calls prog 180 #[x,.slice p2 k.next.length d2] wx fun e w'=>e=.returned (Bb (QiL (QcJ u.trusted) k.next))∧w'=wx from fun wx M x hx j =>
   QoS _ _ _ _ M N wx j (aO.out.below ((b.out.trans (hx.mono b.out.size)).mono hN)))
  have aP:=hid (show ∀ wx,Bd w0 wx→Calls prog 216 #[.slice o6 u.trusted.length c6,.agg #[.string u.sg.hd.chain,Bb u.sg.hd.height,Bb u.sg.hd.time,.slice o1 u.sg.hd.root.length c1,.slice o2 u.sg.hd.vals.length c2,.slice o3 u.sg.hd.next.length c3,.slice o4 u.sg.vals.length c4,.slice o5 u.sg.votes.length c5]] wx fun e w'=>e=.returned (.bool (QjR u.trusted u.sg))∧Bd wx w' from fun wx hx=>by
   have j:=b.out.trans (hx.mono b.out.size)
   exact Qv1 u.trusted u.sg _ _ N wx (Bh hN j.size) (HT.out.below (j.mono hN)) (aQ.out.below (j.mono hN)) A.out aD.out aS.out aR.out)
  clear hv
  go_in
  go_wp2_with fail
  rw [aG.out];refine aF.out.mono ?_;rintro e w1 ⟨rfl,m⟩;rw [A.out];have HQ1:=hid m;have aA:=hgo b m;have O:=hid (show ∀ wx,Bd w0 wx→wx.cell? ⟨w.heap.size,3,none⟩=some (.slice p2 k.next.length d2)∧wx.cell? ⟨w.heap.size+1,9,none⟩=some (.slice o6 u.trusted.length c6) from fun wx hx=>⟨(aE.out.below hx aE.out.lt).cell 3,(S.out.below hx S.out.lt).cell 9⟩)
  have D:=hid (show Bd w0 w1.drew from m.drew);have s0:=O.out w1 m;have s1:=O.out _ D.out
  have aM:=hid (show (QiL (QcJ u.trusted) k.next=0∧QcJ u.trusted=k.next)∨(QiL (QcJ u.trusted) k.next=8∧QeY k u=8) by
   by_cases h:QcJ u.trusted=k.next
   ·exact .inl ⟨by unfold QiL;rw [if_pos h],h⟩
   ·exact .inr ⟨by unfold QiL;rw [if_neg h],by unfold QeY;rw [if_neg (by simp [A.out]),if_pos h]⟩)
  clear m k9
  go_wp2_with fail
  go_region_held3 (fun W=>W.cell? ⟨w.heap.size,3,none⟩=some (.slice p2 k.next.length d2)∧W.cell? ⟨w.heap.size+1,9,none⟩=some (.slice o6 u.trusted.length c6)) (first | assumption) (first
   | (go_at_call 215;refine (aL.out _ D.out).mono ?_;rintro e w6 ⟨x6,rfl,Y,aH⟩;obtain ⟨o7,c7,rfl,_⟩:=Y.shape;have aU:=hid Y;have q:=hid (D.out.trans (aH.mono D.out.size));have s6:=O.out _ q.out;clear aH Y)
   | (go_at_call 180;refine (aN.out _ _ _ q.out aU.out).mono ?_;rintro e w7 ⟨rfl,aX⟩;obtain rfl:=aX.symm))
  all_goals
   have aC:=hid (b.out.trans (q.out.mono b.out.size));obtain ⟨⟨i0,i1,i2,i3,i4⟩,i5,i6,i7,i8,i9⟩:=(rg S q).ten
   rcases aM.out with ⟨hz,hd⟩ | ⟨hz,hl⟩
   ·rw [hz]
    have HD:=hid hd;clear hz hd s0 s1 s6
    go_wp2_with fail
    refine (aP.out _ q.out).mono ?_;rintro e w8 ⟨rfl,aI⟩;have aB:=hgo aC aI;clear aI
    cases ho:QjR u.trusted u.sg with
    | true =>
     have HL:=hid (show QeY k u=0 by unfold QeY;rw [if_neg (by simp [A.out]),if_neg (by simp [HD.out]),if_neg (by simp [ho])])
     clear ho;go_wp2;go_ret;exact ⟨by rw [HL.out];first | done | rfl,aB.out⟩
    | false =>
     have HL:=hid (show QeY k u=10 by unfold QeY;rw [if_neg (by simp [A.out]),if_neg (by simp [HD.out]),if_pos ho])
     clear ho;go_wp2;go_ret;exact ⟨by rw [HL.out];first | done | rfl,aB.out⟩
   ·rw [hz]
    have HL:=hid hl;clear hz hl s0 s1 s6;go_wp2;go_ret;exact ⟨by rw [HL.out];first | done | rfl,aC.out⟩
 ·have HL:=hid (show QeY k u=JD u.trusted by unfold QeY;rw [if_pos hv])
  have e1:(JD u.trusted != 0)=true:=by simpa using hv
  clear hv;generalize JD u.trusted=z at *
  go_in
  go_wp2_with fail
  rw [aG.out];refine aF.out.mono ?_;rintro e w1 ⟨rfl,m⟩;have aA:=hgo b m;clear m;go_wp2;go_ret;exact ⟨by rw [HL.out];first | done | rfl,aA.out⟩
theorem Qvs {s t:ByteArray} (h:s≠t):(s.toList == t.toList)=false:=by
 rw [beq_eq_false_iff_ne];intro e
 exact h (by
  rw [Go.ByteArray.toList_eq,Go.ByteArray.toList_eq] at e;obtain ⟨x⟩:=s;obtain ⟨y⟩:=t;simp at e
  rw [e])
theorem Qjs (c:Cl) (u:Up) (now:Int) (gc gn:Nat) (oa:Option Addr) (ca:Nat) (uv:Value) (N:Nat) (w:World) (q:Qi w) (hN:N≤w.heap.size) (G:Row w gc 78 [.string c.chain,Bb c.trust,.bool c.frozen,.slice oa c.known.length ca]) (I:Row w gn 3 [Bb now])
  (hk:Jj w N (.slice oa c.known.length ca) c.known) (hu:UpV w N uv u) (T:c.fits) (O:u.fits) (M:QY c now=0) :
  Calls prog 176 #[uv,.pointer (some ⟨gc,0,none⟩),.pointer (some ⟨gn,0,none⟩)] w fun e w'=>e=.returned (Bb (QA c u now))∧Bd w w':=by
 have HE:=hid (show QA c u now=if Zu u.sg≠0 then Zu u.sg else match atK c.known u.frm with
  | none=>6
  | some k=>Qdu c k u now from rfl)
 obtain ⟨aF,Y,-⟩:=QaR M;have HL:=hid (fun k v W (hb:Bd w W) (h1:KnV W W.heap.size v k) (h2:Zu u.sg=0)=>Qsd k u v uv W.heap.size W (q.below hb q.lt) (Bj _) h1 ((hu.below (hb.mono hN)).mono (Bh hN hb.size)) O h2)
 obtain ⟨o1,c1,o2,c2,o3,c3,o4,c4,o5,c5,o6,c6,rfl,h1,h2,h3,h4,h5,-⟩:=hu.open;have aA:=hid (fun W (hb:Bd w W)=>Qvc u.sg _ N W (q.below hb q.lt) (Bh hN hb.size) (SgV.below (N:=N) ⟨_,_,_,_,_,rfl,h1,h2,h3,h4,h5⟩ (hb.mono hN)) O.1)
 have aB:=hid (fun W (hb:Bd w W)=>QuV c u.frm (.agg #[.string c.chain,Bb c.trust,.bool c.frozen,.slice oa c.known.length ca]) N W ⟨_,rfl,hk.below (hb.mono hN)⟩ (Bh hN hb.size) T)
 have aE:=hid (fun k v W (hb:Bd w W) (h1:KnV W W.heap.size v k) (h2:0≤k.time∧k.time≤1000000000000)=>Qin c k now (.agg #[.string c.chain,Bb c.trust,.bool c.frozen,.slice oa c.known.length ca]) v W.heap.size W ⟨_,rfl,(hk.below (hb.mono hN)).mono (Bh hN hb.size)⟩ h1 Y h2)
 have aC:=hid (fun b v W (hb:Bd w W) (h1:Bytes W W.heap.size v b)=>QoS u.sg.hd.vals b _ v N W.heap.size W (h2.below (hb.mono hN)) h1)
 have HR:=hid (fun W (hb:Bd w W)=>And.intro (G.below hb G.lt).cell ((I.below hb I.lt).cell 0))
 have hgl:=G.lt;have hnl:=I.lt;clear h1 h2 h3 h4 h5 hu hk G I q T O M
 go_in
 go_upto_region 1 with fail
 refine JQ ?_;intro w0 F hs;clear hs;have k0:=F.r0.cell
 go_wp2_with fail
 refine (aA.out _ F.b).mono ?_;rintro e w1 ⟨rfl,hb⟩;replace F:=F.go hb;clear hb k0
 by_cases h0:Zu u.sg=0
 ·replace HE:=hid (HE.out.trans (if_neg (by simp [h0])))
  replace HL:=hid (fun k v W hb h1=>HL.out k v W hb h1 h0)
  have aD:=hid (QaU (QaJ h0).1).2.1;rw [h0];clear h0;have k0:=F.r0.cell;obtain ⟨k1,k2⟩:=HR.out _ F.b
  go_wp2_with fail
  refine (aB.out _ F.b).mono ?_;rintro e w2 ⟨hb,p1,d1,p2,d2,rfl,L,C⟩;replace F:=F.go hb;have hsz:=F.b.size;clear hb k0 k1 k2
  cases ha:atK c.known u.frm with
  | none =>
   have HZ:=hid (show QA c u now=6 by rw [HE.out,ha])
   have HB:=hid F.b;simp only [Option.isSome];clear F L C;generalize QeW c.known u.frm=k at *;go_wp2;go_ret;exact ⟨by rw [HZ.out];rfl,HB.out.alloc HB.out.size _⟩
  | some k =>
   replace HE:=hid (show QA c u now=Qdu c k u now by rw [HE.out,ha])
   have S:=hid ((Qey k).1 (((Yc c).1 aF).2.2.2.1 k (Qg2 ha).1)).1;rw [QfL ha] at L C ⊢;simp only [Option.isSome];have HX:=hid (And.intro L C);clear ha L C
   go_upto_region 5 with fail
   refine F.box ?_;intro w3 F3 aG m;have k0:=F3.r0.cell;clear aG F
   go_upto_region 8 with fail
   refine F3.box ?_;intro w4 F aH A;have D:=hid (fun W (hb:Bd w4 W)=>(show KnV W W.heap.size (.agg #[Bb k.height,Bb k.time,.slice p1 k.root.length d1,.slice p2 k.next.length d2]) k from ⟨_,_,rfl,(HX.out.1.below ((m.trans (A.mono m.size)).trans (hb.mono (Bh m.size A.size)))).mono (Bh m.size (Bh A.size hb.size)),(HX.out.2.below ((m.trans (A.mono m.size)).trans (hb.mono (Bh m.size A.size)))).mono (Bh m.size (Bh A.size hb.size))⟩))
   clear k0 aH F3 m A;have k0:=F.r0.cell;have k3:=F.r1.cell;have k4:=F.r2.cell;obtain ⟨k1,k2⟩:=HR.out _ F.b
   by_cases E:u.sg.hd.chain=c.chain
   ·have e1:(u.sg.hd.chain.toList == c.chain.toList)=true:=by simp [E]
    have j:=hid (HE.out.trans (if_neg (by simp [E])))
    clear E HE
    go_wp2_with fail
    refine (aE.out k _ w4 F.b (D.out _ (Bi _ _)) (by have:=S.out;omega)).mono ?_
    rintro e w5 ⟨rfl,hb⟩;have F5:=F.go hb;replace D:=hid (D.out _ hb);clear hb F k0 k1 k2 k3 k4;have k0:=F5.r0.cell;have k3:=F5.r1.cell;have k4:=F5.r2.cell;obtain ⟨k1,k2⟩:=HR.out _ F5.b
    by_cases ht:c.trust≤now-k.time
    ·replace j:=hid (j.out.trans (if_pos ht))
     rw [show decide (now-k.time<c.trust)=false by simp;omega]
     go_wp2;go_ret;exact ⟨by rw [j.out];rfl,F5.b⟩
    replace j:=hid (j.out.trans (if_neg ht));rw [show decide (now-k.time<c.trust)=true by simp;omega]
    clear ht
    by_cases hh:u.sg.hd.height≤k.height
    ·replace j:=hid (j.out.trans (if_pos hh))
     have e3:decide (u.sg.hd.height≤k.height)=true:=by simpa using hh
     go_wp2;go_ret;exact ⟨by rw [j.out];rfl,F5.b⟩
    replace j:=hid (j.out.trans (if_neg hh));have e3:decide (u.sg.hd.height≤k.height)=false:=by simpa using hh
    have ww:IntKind.i64.wrap (u.sg.hd.time-now)=u.sg.hd.time-now:=by have:=aD.out;rw [Cd];omega
    clear hh
    by_cases h4:u.sg.hd.time≤k.time∨10<u.sg.hd.time-now
    ·replace j:=hid (j.out.trans (if_pos h4))
     have e5:decide (u.sg.hd.time≤k.time)=false→decide (10<u.sg.hd.time-now)=true:=by simp;omega
     clear h4
     cases e4:decide (u.sg.hd.time≤k.time) with
     | true =>
      go_wp2;go_ret;exact ⟨by rw [j.out];rfl,F5.b⟩
     | false =>
      have e6:=e5 e4;go_wp2;go_ret;exact ⟨by rw [j.out];rfl,F5.b⟩
    replace j:=hid (j.out.trans (if_neg h4));have e4:decide (u.sg.hd.time≤k.time)=false:=by simp;omega
    have e5:decide (10<u.sg.hd.time-now)=false:=by simp;omega
    have w1':IntKind.i64.wrap (k.height+1)=k.height+1:=by have:=S.out;rw [Cd];omega
    clear h4
    by_cases h5:u.sg.hd.height=k.height+1
    ·replace j:=hid (j.out.trans (if_pos h5))
     have e6:(u.sg.hd.height == k.height+1)=true:=by simpa using h5
     clear h5;obtain ⟨_,_,e,-,C⟩:=D.out;simp only [BW,BN,BL,true_and,BO] at e;obtain ⟨rfl,rfl⟩:=e;have HP:=hid (aC.out k.next _ w5 F5.b C);have HB:=hid F5.b;clear C
     go_wp2_with fail
     refine HP.out.mono ?_;rintro e w6 ⟨rfl,rfl⟩;go_wp2;go_ret;exact ⟨by rw [j.out];rfl,HB.out⟩
    ·replace j:=hid (j.out.trans (if_neg h5))
     have e6:(u.sg.hd.height == k.height+1)=false:=by simpa using h5
     clear h5;have HP:=hid (HL.out k _ w5 F5.b D.out)
     go_wp2_with (first | refine F5.load 1 rfl Y9 ?_ | refine F5.load 0 rfl ZA ?_)
     refine HP.out.mono ?_;rintro e w6 ⟨rfl,hb⟩;have HB:=hid (F5.go hb).b;clear hb F5 k0 k1 k2 k3 k4;go_wp2;go_ret;exact ⟨by rw [j.out];rfl,HB.out⟩
   ·have e1:=Qvs E
    replace HE:=hid (HE.out.trans (if_pos E));go_wp2;go_ret;exact ⟨by rw [HE.out];rfl,F.b⟩
 ·replace HE:=hid (HE.out.trans (if_pos h0))
  have e2:(Zu u.sg != 0)=true:=by simpa using h0
  have HB:=hid F.b;clear h0 F;generalize Zu u.sg=z at *;go_wp2;go_ret;exact ⟨by rw [HE.out];rfl,HB.out⟩
theorem Qhn (c:Cl) (now:Int) (oa:Option Addr) (ca:Nat) (b:Bool) (n:Nat) (w:World) :
  Calls prog 138 #[.agg #[.string c.chain,Bb c.trust,.bool b,.slice oa n ca],Bb now] w fun e w'=>e=.returned (.func (.func 176) #[] #[.pointer (some ⟨w.heap.size,0,none⟩),.pointer (some ⟨w.heap.size+1,0,none⟩)])∧Row w' w.heap.size 78 [.string c.chain,Bb c.trust,.bool b,.slice oa n ca]∧Row w' (w.heap.size+1) 3 [Bb now]∧Bd w w':=by
 obtain ⟨w0,j⟩:∃ w0,(w.alloc (.cells #[.string c.chain,Bb c.trust,.bool b,.slice oa n ca] 78)).alloc (.cells #[Bb now] 3)=w0:=⟨_,rfl⟩;have m:=hid (show Bd w w0 by rw [← j];exact ((Bi _ _).alloc (Bj _) _).alloc (by simp) _)
 have q:=hid (show Row w0 w.heap.size 78 [.string c.chain,Bb c.trust,.bool b,.slice oa n ca] by rw [← j];exact (Row.new _ _ _).alloc _)
 have z:=hid (show Row w0 (w.heap.size+1) 3 [Bb now] by rw [← j];exact Row.newAt _ _ _ _ (by simp))
 have A:=hid j;clear j
 go_in
 go_wp2;go_ret;rw [A.out];exact ⟨rfl,q.out,z.out,m.out⟩
def QtJ (f:FuncId):Prop:=∀ (c:Cl) (u:Up) (now:Int) (cv uv:Value) (N:Nat) (w:World),Qi w→N≤w.heap.size→ClV w N cv c→UpV w N uv u→c.fits→u.fits →
 Calls prog f #[cv,uv,Bb now] w fun e w'=>Bd w w'∧∃ o n m,e=.returned (.tuple #[.agg #[.string (YM c u now).chain,Bb (YM c u now).trust,.bool (YM c u now).frozen,.slice o n m],Bb (Zo c u now)])∧YQ w' w.heap.size (.slice o n m) (YM c u now).known
theorem Qhr {u:Up} {now:Int} (h:Zo c u now≠0):YM c u now=Cl.none:=by unfold YM;rw [if_neg h]
theorem Qf7 {u:Up} {now:Int} (h:Zo c u now=0):YM c u now=Yv c (QkL u.sg.hd):=by unfold YM;rw [if_pos h]
def QtG (c:List Value) (now:Int) (X:Value) (W:World):Prop:=∃ g h,X=.func (.func 176) #[] #[.pointer (some ⟨g,0,none⟩),.pointer (some ⟨h,0,none⟩)]∧Row W g 78 c∧Row W h 3 [Bb now]
theorem QtG.stay (c:List Value) (now:Int):Yq (QtG c now):=fun _ _ _ hb ⟨g,h,e,h1,h2⟩=>⟨g,h,e,h1.below hb h1.lt,h2.below hb h2.lt⟩
def QtF (base:Nat) (k:Kn) (X:Value) (W:World):Prop:=∃ rv nv,X=.agg #[Bb k.height,Bb k.time,rv,nv]∧Qq W base rv k.root∧Qq W base nv k.next
theorem QtF.stay (base:Nat) (k:Kn):Yq (QtF base k):=fun _ _ _ hb ⟨r,n,e,h1,h2⟩=>⟨r,n,e,QW h1 hb,QW h2 hb⟩
theorem QpF: QtJ 105:=by
 intro c u now cv uv N w C hN S Y E G;have O:=hid (fun W (hb:Bd w W)=>Qnd c now cv N W (S.below (hb.mono hN)) (Bh hN hb.size) E)
 have D:=hid (fun (h:c.known.length≤1000) W (hb:Bd w W)=>QaK c cv N W (S.below (hb.mono hN)) (Bh hN hb.size) E h)
 obtain ⟨kv,rfl,hk⟩:=S;obtain ⟨oa,ca,rfl,-⟩:=hk.shape;obtain ⟨o1,c1,o2,c2,o3,c3,o4,c4,o5,c5,o6,c6,rfl,h1,h2,h3,-⟩:=Y.open;have q:=hid (fun (h0:QY c now=0) W (hb:Bd w W) gc gn (r1:Row W gc 78 [.string c.chain,Bb c.trust,.bool c.frozen,.slice oa c.known.length ca]) (r2:Row W gn 3 [Bb now])=>Qjs c u now gc gn oa ca _ N W (C.below hb C.lt) (Bh hN hb.size) r1 r2 (hk.below (hb.mono hN)) (Y.below (hb.mono hN)) E G h0)
 have aG:=hid (fun W (hb:Bd w W)=>QcC (QkL u.sg.hd) (.agg #[Bb u.sg.hd.height,Bb u.sg.hd.time,.slice o1 u.sg.hd.root.length c1,.slice o3 u.sg.hd.next.length c3]) N W ⟨_,_,rfl,h1.below (hb.mono hN),h3.below (hb.mono hN)⟩ (Bh hN hb.size) ⟨G.1.1.2.1,G.1.1.2.2.2⟩)
 have HE:=hid (show Zo c u now=if QY c now≠0 then QY c now else QA c u now from rfl)
 clear hk h1 h2 h3 C E G Y
 go_in
 go_upto_region 1 with fail
 refine JR ?_;intro w0 F hs;clear hs
 go_wp2_with (refine F.load 0 rfl Qm ?_)
 refine (O.out _ F.b).mono ?_;rintro e w1 ⟨rfl,hb⟩;replace F:=F.go hb;clear hb
 by_cases ha:QY c now=0
 ·replace HE:=hid (HE.out.trans (if_neg (by simp [ha])))
  obtain ⟨aD,-,aE⟩:=QaR ha;obtain ⟨-,-,⟨-,I⟩,-,M⟩:=(Yc c).1 aD;have HX:=hid (And.intro aE (And.intro I M));replace q:=hid (q.out ha);replace D:=hid (D.out (by omega))
  rw [ha];clear ha aD aE I M O
  go_upto_region 4 with fail
  have HF:=hid F;clear F;apply QJ (by kernel_rfl) (fun W hb=>And.intro (HF.out.go hb).r0.cell (HF.out.go hb).r1.cell) (by kernel_rfl)
  ·intro σ;simp [Ql];exact rfl
  iterate 2 (apply RK.val rfl;· intro σ W hb hc ⟨hd,hu⟩;simp at hd hu;go_simp;exact rfl)
  apply RK.callG (QtG [.string c.chain,Bb c.trust,.bool c.frozen,.slice oa c.known.length ca] now) (QtG.stay _ _) rfl
  ·intro σ W hb hc ⟨hd,hu⟩;simp at hd hu
   refine ⟨_,_,by go_simp <;> first | exact rfl | exact ⟨rfl,rfl⟩,(Qhn c now oa ca c.frozen c.known.length W).mono ?_⟩
   rintro e w' ⟨rfl,h1,h2,j⟩;exact ⟨_,rfl,j,_,_,rfl,h1,h2⟩
  apply RK.val rfl;· intro σ W hb hc ⟨hd,hu⟩;simp at hd hu;go_simp;exact rfl
  apply RK.callG _ (Yq.eq (Bb (QA c u now))) rfl
  ·intro σ W hb hc ⟨hd,hu⟩;simp at hd hu
   obtain ⟨⟨g,h,e,h1,h2⟩,e2⟩:=hd;have HP:=hid (q.out W (HF.out.go hb).b g h h1 h2);clear h1 h2;refine ⟨_,_,by go_simp <;> first | exact rfl | exact ⟨rfl,rfl⟩,HP.out.mono ?_⟩
   rintro e w' ⟨rfl,j⟩;exact ⟨_,rfl,j,rfl⟩
  apply RK.val rfl;· intro σ W hb hc ⟨hd,hu⟩;simp at hd hu;go_simp;exact rfl
  intro σ w2 hb _;simp only [JE,Bv,By,Nat.reduceAdd];intro hF;obtain ⟨-,-,-,-,-,e5,-⟩:=hF;have F:=HF.out.go hb;rw [e5];clear hb e5 HF q
  by_cases hz:QA c u now=0
  ·replace HE:=hid (HE.out.trans hz)
   rw [hz];clear hz;have k1:=F.r1.cell
   go_upto_region 8 with fail
   refine F.box ?_;intro w3 F3 hs hb;have HF:=hid F3;have aK:=hid (F3.lts);clear hs hb F F3 k1;apply JT 12 (by kernel_rfl) (fun W hb=>And.intro (HF.out.go hb).r0.cell (HF.out.go hb).r3.cell) (by kernel_rfl)
   ·intro σ;simp [Ql];exact rfl
   apply RK.val rfl;· intro σ W hb hc ⟨hd,hu⟩;simp at hd hu;go_simp;exact rfl
   apply RK.callG (Qpl w3.heap.size c) (Qpl.stay _ _) rfl
   ·intro σ W hb hc ⟨hd,hu⟩;simp at hd hu
    refine ⟨_,_,by go_simp <;> first | exact rfl | exact ⟨rfl,rfl⟩,(D.out W (HF.out.go hb).b).mono ?_⟩
    rintro e w' ⟨j,o,m,ps,rfl,h1,h2⟩;exact ⟨_,rfl,j,o,m,ps,rfl,h1.mono hb.size,h2⟩
   iterate 9 (apply RK.val rfl;· intro σ W hb hc ⟨hd,hu⟩;simp at hd hu;go_simp;exact rfl)
   apply RK.callG (QtF w3.heap.size (QkL u.sg.hd)) (QtF.stay _ _) rfl
   ·intro σ W hb hc ⟨hd,hu⟩;simp at hd hu
    refine ⟨_,_,by go_simp <;> first | exact rfl | exact ⟨rfl,rfl⟩,(aG.out W (HF.out.go hb).b).mono ?_⟩
    rintro e w' ⟨j,p1,d1,p2,d2,rfl,h1,h2⟩;exact ⟨_,rfl,j,_,_,rfl,h1.mono hb.size,h2.mono hb.size⟩
   intro σ W hb _;simp only [JE,Bv,By,Nat.reduceAdd];intro hF;obtain ⟨-,⟨o,m,ps,e1,L,T⟩,-,-,-,-,-,-,-,-,-,⟨rv,nv,aB,hr,hn⟩,-⟩:=hF;have aA:=hid (Qqb c ps ⟨QkL u.sg.hd,rv,nv⟩ o m w3.heap.size W T HX.out.1 L ⟨hr,hn⟩ hb.size HX.out.2.2 (by have:=Bl List.length T;rw [Bp] at this;have:=HX.out.2.1;omega))
   have aH:=hid (HF.out.go hb);simp only [BU,BS,e1,aB,HX.out.1];clear hb L T hr hn e1 aB
   go_wp2_with fail
   refine aA.out.mono ?_;rintro e w5 ⟨aC,o',n',m',rfl,aF⟩;have F5:=aH.out.past aC HF.out.b.size aK.out;have aI:=hid aF;have aJ:=hid HF.out.b.size;clear aC aF aA
   go_wp2_with (refine F5.store 2 rfl Qm (by simp) ?_;intro w6 F6 O6)
   refine Qk results105 rfl F6.r2 Qm rfl ⟨F6.b,o',n',m',by rw [Qf7 HE.out,QhG.1,QhG.2,HE.out];rfl,?_⟩
   rw [Qf7 HE.out];obtain ⟨p,h1,h2⟩:=aI.out;exact ⟨p,(h1.only F5.r2 O6).mono aJ.out,h2⟩
  ·have e0:(QA c u now != 0)=true:=by simpa using hz
   replace HE:=hid (HE.out.trans rfl);have A:=hid (Qhr (c:=c) (u:=u) (now:=now) (by rw [HE.out];exact hz))
   clear hz;generalize QA c u now=z at *
   go_wp2_with (refine F.store 2 rfl Qm (by simp) ?_;intro w6 F6 O6)
   refine Qk results105 rfl F6.r2 Qm rfl ⟨F6.b,none,0,0,by rw [A.out,HE.out];rfl,?_⟩
   rw [A.out];exact YQ.nil _ _
 ·have e0:(QY c now != 0)=true:=by simpa using ha
  replace HE:=hid (HE.out.trans (if_pos ha));have A:=hid (Qhr (c:=c) (u:=u) (now:=now) (by rw [HE.out];exact ha))
  clear ha q D O;generalize QY c now=z at *
  go_wp2_with (refine F.store 2 rfl Qm (by simp) ?_;intro w6 F6 O6)
  refine Qk results105 rfl F6.r2 Qm rfl ⟨F6.b,none,0,0,by rw [A.out,HE.out];rfl,?_⟩
  rw [A.out];exact YQ.nil _ _
end Go.Proofs.YtnedafiokmjkkaaGreatDoor
