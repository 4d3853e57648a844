/- What package client's learn answers, and what it is made of. -/
import Derived.Test.YtnedafiokmjkkaaGreatDoorraHdCheck
namespace Go.Proofs.YtnedafiokmjkkaaGreatDoor
open Tryz
set_option maxRecDepth 1000000
set_option maxHeartbeats 8000000
open Go.RowKit
variable {B N g i:Nat} {w w' w1:World} {t:TypeId} {v:Value} {ps:List KnR} {cs:List Value} {c:Cl}
def Qd9 (a b:Int):Int:=if a<b then -1 else if b<a then 1 else 0
theorem Qrj (a b:Int):Qd9 a b<0↔a<b:=by unfold Qd9;split <;> (try split) <;> omega
theorem Qps (a b:Int):Qd9 a b=0↔a=b:=by unfold Qd9;split <;> (try split) <;> omega
theorem Qef (a:Int) (w:World):Calls prog 74 #[Bb a] w fun e w'=>e=.returned (.bool false)∧w'=w:=by
 have e1:(a != a)=false:=by simp
 go_in
 go_wp2;go_ret;exact ⟨by simp;first | done | rfl,rfl⟩
theorem Qki (a b:Int) (w:World):Calls prog 42 #[Bb a,Bb b] w fun e w'=>e=.returned (Bb (Qd9 a b))∧w'=w:=by
 by_cases h1:a<b
 ·have e1:decide (a<b)=true:=by simp;omega
  have HC:=hid (show Qd9 a b = -1 by unfold Qd9;rw [if_pos h1])
  clear h1
  go_in
  go_wp2_with (go_at_call 74;refine (Qef _ _).mono ?_;rintro e w' ⟨rfl,hw⟩;obtain rfl:=hw.symm)
  go_ret;exact ⟨by rw [HC.out];first | done | rfl,rfl⟩
 ·have e1:decide (a<b)=false:=by simp;omega
  by_cases h2:b<a
  ·have e2:decide (b<a)=true:=by simp;omega
   have HC:=hid (show Qd9 a b=1 by unfold Qd9;rw [if_neg h1,if_pos h2])
   clear h1 h2
   go_in
   go_wp2_with (go_at_call 74;refine (Qef _ _).mono ?_;rintro e w' ⟨rfl,hw⟩;obtain rfl:=hw.symm)
   go_ret;exact ⟨by rw [HC.out];first | done | rfl,rfl⟩
  ·have e2:decide (b<a)=false:=by simp;omega
   have HC:=hid (show Qd9 a b=0 by unfold Qd9;rw [if_neg h1,if_neg h2])
   clear h1 h2
   go_in
   go_wp2_with (go_at_call 74;refine (Qef _ _).mono ?_;rintro e w' ⟨rfl,hw⟩;obtain rfl:=hw.symm)
   go_ret;exact ⟨by rw [HC.out];first | done | rfl,rfl⟩
theorem QeH (k:Kn) (h:Int) (v:Value) (N:Nat) (w:World) (hv:KnV w N v k) :
  Calls prog 184 #[v,Bb h] w fun e w'=>e=.returned (Bb (Qd9 k.height h))∧Bd w w':=by
 obtain ⟨rv,nv,rfl,g1,g2⟩:=hv;obtain ⟨o1,c1,rfl,_⟩:=g1.shape;obtain ⟨o2,c2,rfl,_⟩:=g2.shape;clear g1 g2;obtain ⟨w1,b⟩:∃ w1,w.alloc (.cells #[Bb k.height,Bb k.time,.slice o1 k.root.length c1,.slice o2 k.next.length c2] 31)=w1:=⟨_,rfl⟩;have d:=hid (show Bd w w1 by rw [← b];exact (Bi _ _).alloc (Bj _) _)
 have g0:=(show Row w1 w.heap.size 31 [Bb k.height,Bb k.time,.slice o1 k.root.length c1,.slice o2 k.next.length c2] by rw [← b];exact Row.new _ _ _).cell 0
 have HC:=hid (Qki k.height h w1);have HW:=hid b;clear b;generalize Qd9 k.height h=cc at *
 go_in
 go_wp2_with fail
 rw [HW.out];refine HC.out.mono ?_;rintro e w2 ⟨rfl,j⟩;obtain rfl:=j.symm;go_wp2;go_ret;exact ⟨rfl,d.out⟩
theorem Qmp (l:List Kn) (k:Int) (sv:Value) (N:Nat) (w:World) (hN:N≤w.heap.size) (hl:Jh w N sv l) (hs:Yl l) (d:l.length≤1000000) :
  Calls prog 183 #[sv,Bb k,.func (.func 184) #[] #[]] w fun e w'=>Bd w w'∧∃ i fd,AtI k l i fd∧e=.returned (.tuple #[Bb (i:Nat),.bool fd]):=by
 obtain ⟨ps,rfl,hl,j⟩:=hl;refine (Qh2.1.list Y5 (fun v:Kn=>Qd9 v.height k) (ps.map (·.k)) _ (fun _ _=>rfl) hN hl (by simp [JQ]) (by simp) d (hs.imp fun h=>by grind [Qd9]) fun i r p W hr hp hb=>?_).mono ?_
 ·rw [Bt] at hr hp
  obtain ⟨q,hq,rfl⟩:∃ q,ps[i]?=some q∧JQ q=r:=by simpa using hr
  obtain rfl:q.k=p:=by simpa [hq] using hp
  have b:=(j q (Bn hq)).below (hb.mono hN);exact QeH q.k k _ N W ⟨q.r,q.n,rfl,b.1,b.2⟩
 ·rintro e w' ⟨hb,i,fd,h,rfl⟩
  exact ⟨hb,i,fd,by simpa [AtL,AtI,Qrj,Qps,← Int.not_lt] using h,rfl⟩
theorem Qn1 {a b:Kn} (h:a.time≠b.time):QdV a b=false:=by simp [QdV,h]
theorem Qn0 {a b:Kn} (h:a.root≠b.root):QdV a b=false:=by simp [QdV,h]
theorem QnZ {a b:Kn} (h:a.time=b.time) (h2:a.root=b.root):QdV a b=decide (a.next=b.next):=by simp [QdV,h,h2]
theorem Qof (a b:Kn) (va vb:Value) (N:Nat) (w:World) (ha:KnV w N va a) (hb:KnV w N vb b) (hN:N≤w.heap.size) :
  Calls prog 185 #[va,vb] w fun e w'=>e=.returned (.bool (!QdV a b))∧Bd w w':=by
 obtain ⟨rv,nv,rfl,g1,g2⟩:=ha;obtain ⟨o1,c1,rfl,_⟩:=g1.shape;obtain ⟨o2,c2,rfl,_⟩:=g2.shape;obtain ⟨rv',nv',rfl,g3,g4⟩:=hb;obtain ⟨o3,c3,rfl,_⟩:=g3.shape;obtain ⟨o4,c4,rfl,_⟩:=g4.shape;obtain ⟨w0,j⟩:∃ w0,(w.alloc (.cells #[Bb a.height,Bb a.time,.slice o1 a.root.length c1,.slice o2 a.next.length c2] 31)).alloc (.cells #[Bb b.height,Bb b.time,.slice o3 b.root.length c3,.slice o4 b.next.length c4] 31)=w0:=⟨_,rfl⟩;have d:Bd w w0:=by rw [← j];exact ((Bi _ _).alloc (Bj _) _).alloc (by simp) _
 have z:=hid d;have C:Row w0 w.heap.size 31 [Bb a.height,Bb a.time,.slice o1 a.root.length c1,.slice o2 a.next.length c2]:=by rw [← j];exact (Row.new _ _ _).alloc _
 have D:Row w0 (w.heap.size+1) 31 [Bb b.height,Bb b.time,.slice o3 b.root.length c3,.slice o4 b.next.length c4]:=by rw [← j];exact Row.newAt _ _ _ _ (by simp)
 obtain ⟨⟨y0,y1,y2,y3⟩,_⟩:=C.four;obtain ⟨⟨x0,x1,x2,x3⟩,_⟩:=D.four;have q:=hid (YB a.root b.root (.slice o1 a.root.length c1) (.slice o3 b.root.length c3) N N w0 (g1.below (d.mono hN)) (g3.below (d.mono hN)));have E:=hid (YB a.next b.next (.slice o2 a.next.length c2) (.slice o4 b.next.length c4) N N w0 (g2.below (d.mono hN)) (g4.below (d.mono hN)));have A:=hid j;clear j d C D g1 g2 g3 g4
 by_cases h1:a.time=b.time
 ·have e1:(a.time != b.time)=false:=by simp [h1]
  by_cases h2:a.root=b.root
  ·have HS:=hid (QnZ h1 h2)
   rw [BB h2] at q;generalize a.root.length=n1 at *;generalize b.root.length=n3 at *;generalize a.next.length=n2 at *;generalize b.next.length=n4 at *;generalize decide (a.next=b.next)=dd at *;clear h1 h2
   go_in
   go_wp2_with fail
   rw [A.out];refine q.out.mono ?_;rintro e w2 ⟨rfl,m⟩;obtain rfl:=m.symm
   go_wp2_with fail
   refine E.out.mono ?_;rintro e w2 ⟨rfl,m⟩;obtain rfl:=m.symm;go_wp2;go_ret;exact ⟨by rw [HS.out];first | done | rfl,z.out⟩
  ·have HS:=hid (Qn0 h2)
   rw [BC h2] at q;generalize a.root.length=n1 at *;generalize b.root.length=n3 at *;clear h1 h2
   go_in
   go_wp2_with fail
   rw [A.out];refine q.out.mono ?_;rintro e w2 ⟨rfl,m⟩;obtain rfl:=m.symm;go_wp2;go_ret;exact ⟨by rw [HS.out];first | done | rfl,z.out⟩
 ·have e1:(a.time != b.time)=true:=by simpa using h1
  have HS:=hid (Qn1 h1);clear h1
  go_in
  go_wp2_with fail
  rw [A.out];go_ret;exact ⟨by rw [HS.out];first | done | rfl,z.out⟩
theorem Qjz (l:List Kn) (t:Int):Qp4 l 0 t=true:=rfl
theorem Qp5 {l:List Kn} {j:Nat} {k:Kn} (t:Int) (h:l[j]?=some k):Qp4 l (j+1) t=decide (k.time<t):=by unfold Qp4;simp only [h]
theorem Qnq {l:List Kn} {k:Kn} (t:Int) (h:l[i]?=some k):Qf7 l i t=decide (t<k.time):=by unfold Qf7;rw [h]
theorem QpM {l:List Kn} (t:Int) (h:l.length≤i):Qf7 l i t=true:=by unfold Qf7;rw [Dr h]
theorem Qnr (l:List Kn) (i:Nat) (t:Int) (v:Value) (N:Nat) (w:World) (hv:Jh w N v l) (hi:i≤l.length) (hl:l.length≤1000000) :
  Calls prog 186 #[v,Bb (i:Int),Bb t] w fun e w'=>e=.returned (.bool (Qp4 l i t && Qf7 l i t))∧w'=w:=by
 obtain ⟨oa,ca,rfl,hca⟩:=hv.shape;have HV:=hid hv;clear hv;generalize hn:l.length=n at *;have HN:=hid hn;clear hn
 have E:=hid (show ∃ hb:Bool,Qf7 l i t=hb∧(i=n∧hb=true∨i<n∧∃ b o k,oa=some ⟨b,o,none⟩∧w.cell? ⟨b,o+i*4+1,none⟩=some (Bb k)∧hb=decide (t<k)) by
  by_cases he:i=n
  ·exact ⟨true,QpM t (by rw [HN.out];omega),.inl ⟨he,rfl⟩⟩
  ·obtain ⟨k,hk⟩:∃ k,l[i]?=some k:=⟨l[i]'(by rw [HN.out];omega),Bk _⟩
   obtain ⟨b,o,z,d⟩:=HV.out.spot (by omega)
   obtain ⟨_,_,_,_,d1,_⟩:=d i k hk
   exact ⟨_,Qnq t hk,.inr ⟨by omega,b,o,k.time,z,d1,rfl⟩⟩)
 obtain ⟨hb,G,q⟩:=E.out;have A:=hid G;clear E G
 cases i with
 | zero =>
  have e0:((0:Int) == 0)=true:=by decide
  rcases q with ⟨he,rfl⟩ | ⟨L,b,o,k,rfl,d1,rfl⟩
  ·subst he
   go_in
   go_wp2;go_ret;exact ⟨by rw [Qjz,A.out];first | done | rfl,rfl⟩
  ·have e1:((0:Int) == (n:Int))=false:=by simp;omega
   have e1':((n:Int) == 0)=false:=by simp;omega
   have e2:(0:Int)<(n:Int):=by omega
   have e3:¬ n=0:=by omega
   have d1':w.cell? ⟨b,o+1,none⟩=some (Bb k):=by simpa using d1
   go_in
   go_wp2;go_ret;exact ⟨by rw [Qjz,A.out];first | done | rfl,rfl⟩
 | succ j =>
  obtain ⟨x,hx⟩:∃ x,l[j]?=some x:=⟨l[j]'(by rw [HN.out];omega),Bk _⟩
  obtain ⟨b,o,z,d⟩:=HV.out.spot (by omega)
  obtain ⟨_,_,_,_,f1,_⟩:=d j x hx;subst z;have D:=hid (Qp5 t hx);have e0:(((j+1:Nat):Int) == 0)=false:=by simp;omega
  have I:((j+1:Nat):Int)-1=(j:Int):=by omega
  have hj2:IntKind.i64.wrap (((j+1:Nat):Int)-1)=(j:Int):=by rw [I,Ce];omega
  have hjn:(j:Int)<(n:Int):=by omega
  clear d hx I;generalize x.time=xt at *
  by_cases C:xt<t
  ·have g1:decide (xt<t)=true:=by simpa using C
   rcases q with ⟨he,rfl⟩ | ⟨L,b',o',k,z,d1,rfl⟩
   ·have e1:(((j+1:Nat):Int) == (n:Int))=true:=by simp;omega
    generalize hm:((j+1:Nat):Int)=m at *
    go_in
    go_wp2;go_ret;exact ⟨by rw [D.out,A.out,g1];first | done | rfl,rfl⟩
   ·obtain ⟨rfl,rfl⟩:b=b'∧o=o':=by simpa using z
    have e1:(((j+1:Nat):Int) == (n:Int))=false:=by simp;omega
    have e2:((j+1:Nat):Int)<(n:Int):=by omega
    clear z;generalize hm:j+1=m at *;clear hm
    go_in
    go_wp2;go_ret;exact ⟨by rw [D.out,A.out,g1];first | done | rfl,rfl⟩
  ·have g1:decide (xt<t)=false:=by simpa using C
   clear q;generalize hm:((j+1:Nat):Int)=m at *;clear hm
   go_in
   go_wp2;go_ret;exact ⟨by rw [D.out,g1];first | done | rfl,rfl⟩
theorem JL.other {base:Nat} (h:JL w base v ps) (hr:Row w g t cs) (ht:t≠31) (b:t≠5) (ho:∀ j,j≠g→w'.heap[j]?=w.heap[j]?):JL w' base v ps :=
 ⟨⟨h.1.1,ZX h.1.2 hr ht ho⟩,fun q hq=>⟨ZX (h.2 q hq).1 hr b ho,ZX (h.2 q hq).2 hr b ho⟩⟩
theorem QpZ {k o:Kn} (h:atK c.known k.height=some o):Yv c k={ c with frozen:=!QdV o k }:=by unfold Yv;rw [h]
theorem Qnw {k:Kn} (h:atK c.known k.height=none) (h2:QjS c.known k.height k.time=false):Yv c k={ c with frozen:=true }:=by unfold Yv;rw [h];simp [h2]
theorem QpY {k:Kn} (h:atK c.known k.height=none) (h2:QjS c.known k.height k.time=true):Yv c k={ c with known:=QeJ (Qen c.known k) }:=by unfold Yv;rw [h];simp [h2]
theorem FrB.sub {l l':List Bx} (F:FrB B w l w1) (h:l'.Sublist l):FrB B w l' w1:=⟨F.b,fun r hr=>F.rows r (h.subset hr),fun r hr=>F.own r (h.subset hr),F.apart.sublist h,F.z⟩
theorem JL.only {base:Nat} (h:JL w base v ps) (hr:Row w g 78 cs) (O:JH g w w'):JL w' base v ps:=h.other hr (by decide) (by decide) O.same
theorem QpX (c:Cl) (ps:List KnR) (q:KnR) (o:Option Addr) (m base:Nat) (w:World) (hc:ps.map (·.k)=c.known) (aQ:c.frozen=false) (A:JL w base (.slice o ps.length m) ps) (hq:Qq w base q.r q.k.root∧Qq w base q.n q.k.next) (hb:base≤w.heap.size) (hs:Yl c.known) (h30:ps.length≤30) :
  Calls prog 140 #[.agg #[.string c.chain,Bb c.trust,.bool false,.slice o ps.length m],.agg #[Bb q.k.height,Bb q.k.time,q.r,q.n]] w fun e w'=>Below base w w'∧∃ o' n' m',e=.returned (.agg #[.string c.chain,Bb c.trust,.bool (Yv c q.k).frozen,.slice o' n' m'])∧YP w' base (.slice o' n' m') (Yv c q.k).known:=by
 obtain ⟨qk,qr,qn⟩:=q;obtain ⟨o1,c1,rfl,-⟩:∃ o1 c1,qr=.slice o1 qk.root.length c1∧True:=by obtain ⟨a,b,h,-⟩:=hq.1.shape;exact ⟨a,b,h,trivial⟩
 obtain ⟨o2,c2,rfl,-⟩:∃ o2 c2,qn=.slice o2 qk.next.length c2∧True:=by obtain ⟨a,b,h,-⟩:=hq.2.shape;exact ⟨a,b,h,trivial⟩
 have aW:=hid (show YP w base (.slice o ps.length m) c.known from ⟨ps,A,hc⟩);have HO:=hid (fun W (hx:Bd w W)=>show JL W base (.slice o ps.length m) ps∧Qq W base (.slice o1 qk.root.length c1) qk.root∧Qq W base (.slice o2 qk.next.length c2) qk.next from ⟨A.below hx,QU hq.1 hx,QU hq.2 hx⟩)
 have aA:=hid (fun W (hx:Bd w W)=>show Jh W W.heap.size (.slice o ps.length m) c.known by have:=(A.below hx).knowns;rw [hc] at this;exact this)
 have HC:=hid hc;have HS:=hid hs;have I:=hid (show ps.length=c.known.length by rw [← hc];simp)
 have aN:=hid (fun W (hx:Bd w W)=>Qmp c.known qk.height (.slice o ps.length m) W.heap.size W (Bj _) (aA.out W hx) hs (by rw [← I.out];omega))
 clear A hq hs hc;generalize hn:ps.length=n at *;have HN:=hid hn;clear hn
 go_in
 go_upto_region 1 with fail
 refine JP ?_;intro w0 F0 hs;clear hs;have k0:=F0.r0.cell;have k1:=F0.r1.cell
 go_wp2_with fail
 refine (aN.out _ F0.b).mono ?_;rintro e w1 ⟨aO,i,fd,aE,rfl⟩;have F:=F0.go aO;have E:=hid aE;have aZ:i≤n:=by have:=aE.1;rw [← I.out] at this;exact this
 clear aO aE k0 k1 F0 aN
 have LV:∀ fz w2,Fr w [(w.heap.size,78,[.string c.chain,Bb c.trust,.bool fz,.slice o n m]),(w.heap.size+1,31,[Bb qk.height,Bb qk.time,.slice o1 qk.root.length c1,.slice o2 qk.next.length c2]),(w.heap.size+1+1,78,[.string c.chain,Bb c.trust,.bool fz,.slice o n m])] w2→Yv c qk={ c with frozen:=fz }→Below base w w2∧∃ o' n' m',Ending.returned (.agg #[.string c.chain,Bb c.trust,.bool fz,.slice o n m])=.returned (.agg #[.string c.chain,Bb c.trust,.bool (Yv c qk).frozen,.slice o' n' m'])∧YP w2 base (.slice o' n' m') (Yv c qk).known:=fun fz w2 F e=>⟨F.b.mono hb,o,n,m,by rw [e],by rw [e];exact aW.out.below F.b⟩
 have aB:=hid LV;clear LV
 cases fd with
 | true =>
  obtain ⟨x,hx,-,Y⟩:=E.out.yes HS.out;have d:=hid (QpZ (c:=c) (k:=qk) Y);have hilt:i<n:=by have:=(Bm.1 hx).1;rw [← I.out] at this;exact this
  obtain ⟨b,S,rfl,z⟩:=(aA.out w1 F.b).spot (by omega)
  obtain ⟨M,vr,vn,f0,f1,f2,f3,g2,g3⟩:=z i x hx;obtain ⟨o3,c3,rfl,-⟩:=g2.shape;obtain ⟨o4,c4,rfl,-⟩:=g3.shape
  have aX:=hid (fun wx (hx:Bd w1 wx)=>by
   have hq:=HO.out wx (F.b.trans (hx.mono F.b.size))
   exact Qof x qk _ _ wx.heap.size wx ⟨_,_,rfl,(g2.below hx).mono hx.size,(g3.below hx).mono hx.size⟩ ⟨_,_,rfl,hq.2.1.bytes,hq.2.2.bytes⟩ (Bj _))
  have hil':(i:Int)<(n:Int):=by omega
  have HX:=hid (fun W (hx:Bd w1 W)=>And.intro ((hx.cell (p:=⟨b,S+i*4,none⟩) M).trans f0) (And.intro ((hx.cell (p:=⟨b,S+i*4+1,none⟩) M).trans f1) (And.intro ((hx.cell (p:=⟨b,S+i*4+2,none⟩) M).trans f2) ((hx.cell (p:=⟨b,S+i*4+3,none⟩) M).trans f3))))
  go_upto_region 3 with fail
  have HF:=hid F;clear F z g2 g3 hx Y f0 f1 f2 f3;generalize (!QdV x qk)=fz at *;apply JR 8 (by kernel_rfl) (fun W hb=>And.intro (HF.out.go hb).r0.cell (And.intro (HF.out.go hb).r1.cell (HX.out W hb))) (by kernel_rfl)
  ·intro σ;simp [Qj];exact rfl
  iterate 6 (apply RK.val rfl;· intro σ W hb hc ⟨hd,hu⟩;simp at hd hu;go_simp;exact rfl)
  apply RK.callV rfl
  ·intro σ W hb hc ⟨hd,hu⟩;simp at hd hu;go_simp;exact ⟨rfl,rfl⟩
  ·intro W hb hc;exact aX.out W hb
  apply RK.val rfl;· intro σ W hb hc ⟨hd,hu⟩;simp at hd hu;go_simp;exact rfl
  intro σ W hb _;simp only [Jm,Bv,By,Nat.reduceAdd];intro hF;obtain ⟨-,-,-,-,-,-,e6,e7,-⟩:=hF;have F:=HF.out.go hb;have k0:=F.r0.cell;have z2:=F.r0.frozen 2;simp only [BU,BS,e6,e7];clear hb e6 e7
  go_upto_region 4 with fail
  refine F.cell 0 rfl ?_;intro w5 F5 O5;clear k0 z2 F O5
  go_wp2_with (first | refine F5.load 0 rfl Qm ?_ | (refine F5.store 2 rfl Qm (by simp) ?_;intro w6 F6 O6))
  exact Qfa results140 rfl F6.r2 Qm rfl (aB.out fz _ F6 d.out)
 | false =>
  have O:=E.out.no HS.out;have C:=hid (Qnr c.known i qk.time (.slice o n m) w1.heap.size w1 (aA.out _ F.b) E.out.1 (by rw [← I.out];omega))
  rw [← E.out.time HS.out] at C;have k0:=F.r0.cell;have k1:=F.r1.cell;have z2:=F.r0.frozen 2
  cases ht:QjS c.known qk.height qk.time with
  | false =>
   have d:=hid (Qnw O.1 ht);rw [ht] at C;clear O ht
   go_wp2_with fail
   refine C.out.mono ?_;rintro e w5 ⟨rfl,rfl⟩
   go_upto_region 7 with fail
   refine F.cell 0 rfl ?_;intro w5 F5 O5;clear k0 k1 z2 F O5
   go_wp2_with (first | refine F5.load 0 rfl Qm ?_ | (refine F5.store 2 rfl Qm (by simp) ?_;intro w6 F6 O6))
   exact Qfa results140 rfl F6.r2 Qm rfl (aB.out true _ F6 d.out)
  | true =>
   have d:=hid (QpY O.1 ht);have G:=hid (E.out.put (k:=qk) HS.out);rw [ht] at C;clear O ht aB
   go_wp2_with fail
   refine C.out.mono ?_;rintro e w5 ⟨rfl,rfl⟩
   go_wp2_with fail
   refine QbZ ?_;intro w2 aS aP;have F2:=F.go aP;have hO:=HO.out _ F2.b;have a4:=Bh hb F2.b.size;clear k0 k1 z2 C
   refine (Qky (ps.map JQ) i (JQ ⟨qk,.slice o1 qk.root.length c1,.slice o2 qk.next.length c2⟩) base w5.heap.size (.slice o n m) w2 hO.1.1 a4 aS (KnR.ok.row (w:=w2) (N:=w2.heap.size) ⟨hO.2.1.bytes,hO.2.2.bytes⟩)
    (fun g hg=>by have:=((HO.out _ F.b).1.1.2.lt g hg).2;omega) (by rw [Bp,HN.out];exact aZ) (by rw [Bp,HN.out];omega)).mono ?_
   rintro e w3 ⟨aF,v3,rfl,j⟩;rw [Qp7] at j
   have aJ:=hO.1.past aF j (fun q hq=>by
    rcases Bz.1 hq with hq | hq
    ·exact .inl (DL hq)
    ·rcases Bo.1 hq with rfl | hq
     ·exact .inr hO.2
     ·exact .inl (Dt hq))
   have aI:(ps.take i ++ (⟨qk,.slice o1 qk.root.length c1,.slice o2 qk.next.length c2⟩:KnR) :: ps.drop i).map (·.k)=Qen c.known qk:=by
    rw [G.out,← HC.out,Cc,CI,List.map_take,List.map_drop]
   have aH:(ps.take i ++ (⟨qk,.slice o1 qk.root.length c1,.slice o2 qk.next.length c2⟩:KnR) :: ps.drop i).length=n+1:=by
    have:=HN.out;simp;omega
   generalize (ps.take i ++ (⟨qk,.slice o1 qk.root.length c1,.slice o2 qk.next.length c2⟩:KnR) :: ps.drop i)=ps' at *;obtain ⟨o',m',rfl,-⟩:=aJ.shape;have a3:=HN.out;have aD:=hid (show (ps'.map (·.k)).length=n+1 by rw [Bp,aH])
   have aL:=hid (show QeJ (Qen c.known qk)=if 30<n+1 then (Qen c.known qk).drop 1 else Qen c.known qk by
    unfold QeJ;rw [show (Qen c.known qk).length=n+1 by rw [← aI,Bp,aH]])
   have aM:=hid aI;have aT:=hid aJ
   have F3:=((F2.low hb).sub (.cons_cons _ (.cons _ (.cons_cons _ .slnil)))).grow aF (fun k e=>(hO.1.1.2.lt k e).1) (fun g hg=>by
    simp at hg
    rcases hg with rfl | rfl
    ·exact hO.1.1.apart F2.r0 (by decide)
    ·exact hO.1.1.apart F2.r2 (by decide))
   generalize ps'.length=n' at *;subst aH;have k0:=F3.r0.cell;have z0:=F3.r0.frozen 3;clear aF j aJ F F2 hO aS aP aI a3
   go_upto_region 9 with fail
   refine F3.cell 0 rfl ?_;intro w4 F4 O4;have D:=hid (aT.out.only F3.r0 O4);have k1:=F4.r0.cell;have z1:=F4.r0.frozen 3;clear k0 z0 F3 O4
   by_cases L:30<n+1
   ·have aC:=hid (show (ps'.take 0 ++ ps'.drop (0+1)).map (·.k)=QeJ (Qen c.known qk) by rw [aL.out,if_pos L,← aM.out];simp)
    have T:=hid (show Calls prog 188 #[.slice o' (n+1) m',Bb 0,Bb 1] w4 _ from Qkp (ps'.map JQ) 0 base (.slice o' (n+1) m') w4 D.out.1 (by have:=aD.out;rw [Bp] at this ⊢;omega) 1 rfl)
    have HD:=hid (fun v w' (hg:w4.grownBy w' (Value.slice o' (n+1) m').ownBlock) (hr:J3 w' base v ((ps'.map JQ).take 0 ++ (ps'.map JQ).drop (0+1)))=>by
     rw [Qp6] at hr
     exact D.out.past hg hr (fun q hq=>by
      rcases Bz.1 hq with hq | hq
      ·exact .inl (DL hq)
      ·exact .inl (Dt hq)))
    have aY:decide ((30:Int)<((n+1:Nat):Int))=true:=BB (by omega)
    clear L G aD;generalize n+1=n1 at *
    go_wp2_with fail
    refine T.out.mono ?_;rintro e w5 ⟨aG,v5,rfl,aR⟩;have aK:=HD.out _ _ aG aR;obtain ⟨o5,m5,rfl,-⟩:=aK.shape
    have F5:=F4.grow aG (fun k e=>(D.out.1.2.lt k e).1) (fun g hg=>by
     simp at hg
     rcases hg with rfl | rfl
     ·exact D.out.1.apart F4.r0 (by decide)
     ·exact D.out.1.apart F4.r1 (by decide))
    have aU:=hid aK;clear aR aK aG k1 z1 F4 T HD;generalize (ps'.take 0 ++ ps'.drop (0+1))=p5 at *;generalize hl5:p5.length=n5 at *;have k0:=F5.r0.cell;have z0:=F5.r0.frozen 3
    go_upto_region 11 with fail
    refine F5.cell 0 rfl ?_;intro w6 F6 O6;have aV:=hid (aU.out.only F5.r0 O6);clear k0 z0 F5 O6
    go_wp2_with (first | refine F6.load 0 rfl Qm ?_ | (refine F6.store 1 rfl Qm (by simp) ?_;intro w7 F7 O7))
    refine Qfa results140 rfl F7.r1 Qm rfl ⟨F7.b,o5,n5,m5,by rw [d.out,aQ];rfl,?_⟩
    rw [d.out];exact ⟨p5,aV.out.only F6.r1 O7,aC.out⟩
   ·have aC:=hid (show ps'.map (·.k)=QeJ (Qen c.known qk) by rw [aL.out,if_neg L,aM.out])
    have aY:decide ((30:Int)<((n+1:Nat):Int))=false:=BC (by omega)
    clear k1 z1 L G aD;have k1:=F4.r0.cell;generalize n+1=n1 at *
    go_wp2_with (first | refine F4.load 0 rfl Qm ?_ | (refine F4.store 1 rfl Qm (by simp) ?_;intro w7 F7 O7))
    refine Qfa results140 rfl F7.r1 Qm rfl ⟨F7.b,o',n1,m',by rw [d.out,aQ];rfl,?_⟩
    rw [d.out];exact ⟨ps',D.out.only F4.r1 O7,aC.out⟩
def QiC (a b:Bg):Int:=if a=b then 0 else 8
theorem QoF (a b:Bg) (va vb:Value) (N M:Nat) (w:World) (ha:Bytes w N va a) (hb:Bytes w M vb b) :
  Calls prog 180 #[va,vb] w fun e w'=>e=.returned (Bb (QiC a b))∧w'=w:=by
 have HE:=hid (YB a b va vb N M w ha hb);obtain ⟨o1,c1,rfl,_⟩:=ha.shape;obtain ⟨o2,c2,rfl,_⟩:=hb.shape;clear ha hb
 by_cases h:a=b
 ·have HF:=hid (show QiC a b=0 by unfold QiC;rw [if_pos h])
  rw [BB h] at HE;generalize a.length=n1 at *;generalize b.length=n2 at *;clear h
  go_in
  go_wp2_with fail
  refine HE.out.mono ?_;rintro e w2 ⟨rfl,d⟩;obtain rfl:=d.symm;go_wp2;go_ret;exact ⟨by rw [HF.out];first | done | rfl,rfl⟩
 ·have HF:=hid (show QiC a b=8 by unfold QiC;rw [if_neg h])
  rw [BC h] at HE;generalize a.length=n1 at *;generalize b.length=n2 at *;clear h
  go_in
  go_wp2_with fail
  refine HE.out.mono ?_;rintro e w2 ⟨rfl,d⟩;obtain rfl:=d.symm;go_wp2;go_ret;exact ⟨by rw [HF.out];first | done | rfl,rfl⟩
def QeU (k:Kn) (u:Up):Int:=if JB u.trusted≠0 then JB u.trusted else if QcD u.trusted≠k.next then 8 else if QjH u.trusted u.sg=false then 10 else 0
theorem Row.ten {a b c d e f x z u:Value} (h:Row w g t [a,b,c,d,e,f,x,v,z,u]) :
  (w.cell? ⟨g,0,none⟩=some a∧w.cell? ⟨g,1,none⟩=some b∧w.cell? ⟨g,2,none⟩=some c∧w.cell? ⟨g,3,none⟩=some d∧w.cell? ⟨g,4,none⟩=some e)∧w.cell? ⟨g,5,none⟩=some f∧w.cell? ⟨g,6,none⟩=some x∧w.cell? ⟨g,7,none⟩=some v∧w.cell? ⟨g,8,none⟩=some z∧w.cell? ⟨g,9,none⟩=some u :=
 ⟨⟨h.cell 0,h.cell 1,h.cell 2,h.cell 3,h.cell 4⟩,h.cell 5,h.cell 6,h.cell 7,h.cell 8,h.cell 9⟩
theorem UpV.open {u:Up} (h:UpV w N v u):∃ o1 c1 o2 c2 o3 c3 o4 c4 o5 c5 o6 c6,v=.agg #[Bb u.frm,.string u.sg.hd.chain,Bb u.sg.hd.height,Bb u.sg.hd.time,.slice o1 u.sg.hd.root.length c1,.slice o2 u.sg.hd.vals.length c2,.slice o3 u.sg.hd.next.length c3,.slice o4 u.sg.vals.length c4,.slice o5 u.sg.votes.length c5,.slice o6 u.trusted.length c6] ∧
  Bytes w N (.slice o1 u.sg.hd.root.length c1) u.sg.hd.root∧Bytes w N (.slice o2 u.sg.hd.vals.length c2) u.sg.hd.vals∧Bytes w N (.slice o3 u.sg.hd.next.length c3) u.sg.hd.next∧Zx w N (.slice o4 u.sg.vals.length c4) u.sg.vals∧Zy w N (.slice o5 u.sg.votes.length c5) u.sg.votes∧Zx w N (.slice o6 u.trusted.length c6) u.trusted:=by
 obtain ⟨x0,x1,x2,x3,x4,x5,x6,x7,tv,rfl,⟨rv,vv,nv,lv,sv,he,h1,h2,h3,h4,h5⟩,h6⟩:=h;obtain ⟨o1,c1,rfl,_⟩:=h1.shape;obtain ⟨o2,c2,rfl,_⟩:=h2.shape;obtain ⟨o3,c3,rfl,_⟩:=h3.shape;obtain ⟨o4,c4,rfl,_⟩:=h4.shape;obtain ⟨o5,c5,rfl,_⟩:=h5.shape;obtain ⟨o6,c6,rfl,_⟩:=h6.shape;simp at he;obtain ⟨rfl,rfl,rfl,rfl,rfl,rfl,rfl,rfl⟩:=he;exact ⟨o1,c1,o2,c2,o3,c3,o4,c4,o5,c5,o6,c6,rfl,h1,h2,h3,h4,h5,h6⟩
theorem Qr0 (k:Kn) (u:Up) (kv uv:Value) (N:Nat) (w:World) (I:Qi w) (hN:N≤w.heap.size) (hk:KnV w N kv k) (hu:UpV w N uv u) (hf:u.fits) (E:Zm u.sg=0) :
  Calls prog 181 #[kv,uv] w fun e w'=>e=.returned (Bb (QeU k u))∧Bd w w':=by
 obtain ⟨rv,nv,rfl,g1,g2⟩:=hk;obtain ⟨p1,d1,rfl,_⟩:=g1.shape;obtain ⟨p2,d2,rfl,_⟩:=g2.shape;obtain ⟨o1,c1,o2,c2,o3,c3,o4,c4,o5,c5,o6,c6,rfl,h1,h2,h3,h4,h5,h6⟩:=hu.open;obtain ⟨aU,aV,aI⟩:=hf;obtain ⟨w0,A⟩:∃ w0,(w.alloc (.cells #[Bb k.height,Bb k.time,.slice p1 k.root.length d1,.slice p2 k.next.length d2] 31)).alloc (.cells #[Bb u.frm,.string u.sg.hd.chain,Bb u.sg.hd.height,Bb u.sg.hd.time,.slice o1 u.sg.hd.root.length c1,.slice o2 u.sg.hd.vals.length c2,.slice o3 u.sg.hd.next.length c3,.slice o4 u.sg.vals.length c4,.slice o5 u.sg.votes.length c5,.slice o6 u.trusted.length c6] 39)=w0:=⟨_,rfl⟩;have D:Bd w w0:=by rw [← A];exact ((Bi _ _).alloc (Bj _) _).alloc (by simp) _
 have aJ:Row w0 w.heap.size 31 [Bb k.height,Bb k.time,.slice p1 k.root.length d1,.slice p2 k.next.length d2]:=by rw [← A];exact (Row.new _ _ _).alloc _
 have S:Row w0 (w.heap.size+1) 39 [Bb u.frm,.string u.sg.hd.chain,Bb u.sg.hd.height,Bb u.sg.hd.time,.slice o1 u.sg.hd.root.length c1,.slice o2 u.sg.hd.vals.length c2,.slice o3 u.sg.hd.next.length c3,.slice o4 u.sg.vals.length c4,.slice o5 u.sg.votes.length c5,.slice o6 u.trusted.length c6]:=by rw [← A];exact Row.newAt _ _ _ _ (by simp)
 have aP:=hid (show SgV w N (.agg #[.string u.sg.hd.chain,Bb u.sg.hd.height,Bb u.sg.hd.time,.slice o1 u.sg.hd.root.length c1,.slice o2 u.sg.hd.vals.length c2,.slice o3 u.sg.hd.next.length c3,.slice o4 u.sg.vals.length c4,.slice o5 u.sg.votes.length c5]) u.sg from ⟨_,_,_,_,_,rfl,h1,h2,h3,h4,h5⟩);have HT:=hid h6;have aN:=hid g2;have G:=hid I;have b:=hid D;have aD:=hid aJ;have O:=hid S;have aC:=hid aI;have HCK:=hid E;have aE:=hid (QuR u.trusted (.slice o6 u.trusted.length c6) N w0 (h6.below (D.mono hN)) (Bh hN D.size) aV);have aR:=hid (QaD E).2;have aQ:=hid (Qja E).2.1;have aF:=hid A;have k9:=S.cell 9;simp at k9;clear g1 g2 h1 h2 h3 h4 h5 h6 I D aJ S aI E A aU
 by_cases hv:JB u.trusted=0
 ·have q:=hid hv
  have aS:=hid (Zg hv)
  have aK:=hid (show ∀ wx,Bd w0 wx→Calls prog 215 #[.slice o6 u.trusted.length c6] wx fun e w'=>∃ x,e=.returned x∧Bytes w' w'.heap.size x (QcD u.trusted)∧Bd wx w' from fun wx hx=>by
   have d:=b.out.trans (hx.mono b.out.size)
   exact QoD u.trusted _ N wx (G.out.below d G.out.lt) (HT.out.below (d.mono hN)) (Bh hN d.size) aS.out.2.1 aC.out)
  have aM:=hid (show ∀ (wx:World) (M:Nat) (x:Value),Bd w0 wx→Bytes wx M x (QcD u.trusted)→Calls prog 180 #[x,.slice p2 k.next.length d2] wx fun e w'=>e=.returned (Bb (QiC (QcD u.trusted) k.next))∧w'=wx from fun wx M x hx d =>
   QoF _ _ _ _ M N wx d (aN.out.below ((b.out.trans (hx.mono b.out.size)).mono hN)))
  have aO:=hid (show ∀ wx,Bd w0 wx→Calls prog 216 #[.slice o6 u.trusted.length c6,.agg #[.string u.sg.hd.chain,Bb u.sg.hd.height,Bb u.sg.hd.time,.slice o1 u.sg.hd.root.length c1,.slice o2 u.sg.hd.vals.length c2,.slice o3 u.sg.hd.next.length c3,.slice o4 u.sg.vals.length c4,.slice o5 u.sg.votes.length c5]] wx fun e w'=>e=.returned (.bool (QjH u.trusted u.sg))∧Bd wx w' from fun wx hx=>by
   have d:=b.out.trans (hx.mono b.out.size)
   exact QvS u.trusted u.sg _ _ N wx (Bh hN d.size) (HT.out.below (d.mono hN)) (aP.out.below (d.mono hN)) q.out aC.out aR.out aQ.out)
  clear hv
  go_in
  go_wp2_with fail
  rw [aF.out];refine aE.out.mono ?_;rintro e w1 ⟨rfl,j⟩;rw [q.out];have HQ1:=hid j;have Y:=hgo b j;have L:=hid (show ∀ wx,Bd w0 wx→wx.cell? ⟨w.heap.size,3,none⟩=some (.slice p2 k.next.length d2)∧wx.cell? ⟨w.heap.size+1,9,none⟩=some (.slice o6 u.trusted.length c6) from fun wx hx=>⟨(aD.out.below hx aD.out.lt).cell 3,(O.out.below hx O.out.lt).cell 9⟩)
  have C:=hid (show Bd w0 w1.drew from j.drew);have s0:=L.out w1 j;have s1:=L.out _ C.out
  have aL:=hid (show (QiC (QcD u.trusted) k.next=0∧QcD u.trusted=k.next)∨(QiC (QcD u.trusted) k.next=8∧QeU k u=8) by
   by_cases h:QcD u.trusted=k.next
   ·exact .inl ⟨by unfold QiC;rw [if_pos h],h⟩
   ·exact .inr ⟨by unfold QiC;rw [if_neg h],by unfold QeU;rw [if_neg (by simp [q.out]),if_pos h]⟩)
  clear j k9
  go_wp2_with fail
  go_region_held3 (fun W=>W.cell? ⟨w.heap.size,3,none⟩=some (.slice p2 k.next.length d2)∧W.cell? ⟨w.heap.size+1,9,none⟩=some (.slice o6 u.trusted.length c6)) (first | assumption) (first
   | (go_at_call 215;refine (aK.out _ C.out).mono ?_;rintro e w6 ⟨x6,rfl,T,aG⟩;obtain ⟨o7,c7,rfl,_⟩:=T.shape;have aT:=hid T;have m:=hid (C.out.trans (aG.mono C.out.size));have s6:=L.out _ m.out;clear aG T)
   | (go_at_call 180;refine (aM.out _ _ _ m.out aT.out).mono ?_;rintro e w7 ⟨rfl,aW⟩;obtain rfl:=aW.symm))
  all_goals
   have aB:=hid (b.out.trans (m.out.mono b.out.size));obtain ⟨⟨i0,i1,i2,i3,i4⟩,i5,i6,i7,i8,i9⟩:=(rg O m).ten
   rcases aL.out with ⟨hz,hd⟩ | ⟨hz,hl⟩
   ·rw [hz]
    have HD:=hid hd;clear hz hd s0 s1 s6
    go_wp2_with fail
    refine (aO.out _ m.out).mono ?_;rintro e w8 ⟨rfl,aH⟩;have aA:=hgo aB aH;clear aH
    cases ho:QjH u.trusted u.sg with
    | true =>
     have HL:=hid (show QeU k u=0 by unfold QeU;rw [if_neg (by simp [q.out]),if_neg (by simp [HD.out]),if_neg (by simp [ho])])
     clear ho;go_wp2;go_ret;exact ⟨by rw [HL.out];first | done | rfl,aA.out⟩
    | false =>
     have HL:=hid (show QeU k u=10 by unfold QeU;rw [if_neg (by simp [q.out]),if_neg (by simp [HD.out]),if_pos ho])
     clear ho;go_wp2;go_ret;exact ⟨by rw [HL.out];first | done | rfl,aA.out⟩
   ·rw [hz]
    have HL:=hid hl;clear hz hl s0 s1 s6;go_wp2;go_ret;exact ⟨by rw [HL.out];first | done | rfl,aB.out⟩
 ·have HL:=hid (show QeU k u=JB u.trusted by unfold QeU;rw [if_pos hv])
  have e1:(JB u.trusted != 0)=true:=by simpa using hv
  clear hv;generalize JB u.trusted=z at *
  go_in
  go_wp2_with fail
  rw [aF.out];refine aE.out.mono ?_;rintro e w1 ⟨rfl,j⟩;have Y:=hgo b j;clear j;go_wp2;go_ret;exact ⟨by rw [HL.out];first | done | rfl,Y.out⟩
theorem Qvg {s t:ByteArray} (h:s≠t):(s.toList == t.toList)=false:=by
 rw [beq_eq_false_iff_ne];intro e
 exact h (by
  rw [Go.ByteArray.toList_eq,Go.ByteArray.toList_eq] at e;obtain ⟨x⟩:=s;obtain ⟨y⟩:=t;simp at e
  rw [e])
theorem Qjj (c:Cl) (u:Up) (now:Int) (gc gn:Nat) (oa:Option Addr) (ca:Nat) (uv:Value) (N:Nat) (w:World) (m:Qi w) (hN:N≤w.heap.size) (E:Row w gc 78 [.string c.chain,Bb c.trust,.bool c.frozen,.slice oa c.known.length ca]) (G:Row w gn 3 [Bb now])
  (hk:Jh w N (.slice oa c.known.length ca) c.known) (hu:UpV w N uv u) (S:c.fits) (M:u.fits) (L:QW c now=0) :
  Calls prog 176 #[uv,.pointer (some ⟨gc,0,none⟩),.pointer (some ⟨gn,0,none⟩)] w fun e w'=>e=.returned (Bb (QB c u now))∧Bd w w':=by
 have HE:=hid (show QB c u now=if Zm u.sg≠0 then Zm u.sg else match atK c.known u.frm with
  | none=>6
  | some k=>Qdq c k u now from rfl)
 obtain ⟨aE,T,-⟩:=QaL L;have HL:=hid (fun k v W (hb:Bd w W) (h1:KnV W W.heap.size v k) (h2:Zm u.sg=0)=>Qr0 k u v uv W.heap.size W (m.below hb m.lt) (Bj _) h1 ((hu.below (hb.mono hN)).mono (Bh hN hb.size)) M h2)
 obtain ⟨o1,c1,o2,c2,o3,c3,o4,c4,o5,c5,o6,c6,rfl,h1,h2,h3,h4,h5,-⟩:=hu.open;have Y:=hid (fun W (hb:Bd w W)=>Qu1 u.sg _ N W (m.below hb m.lt) (Bh hN hb.size) (SgV.below (N:=N) ⟨_,_,_,_,_,rfl,h1,h2,h3,h4,h5⟩ (hb.mono hN)) M.1)
 have aA:=hid (fun W (hb:Bd w W)=>QuL c u.frm (.agg #[.string c.chain,Bb c.trust,.bool c.frozen,.slice oa c.known.length ca]) N W ⟨_,rfl,hk.below (hb.mono hN)⟩ (Bh hN hb.size) S)
 have aD:=hid (fun k v W (hb:Bd w W) (h1:KnV W W.heap.size v k) (h2:0≤k.time∧k.time≤1000000000000)=>Qih c k now (.agg #[.string c.chain,Bb c.trust,.bool c.frozen,.slice oa c.known.length ca]) v W.heap.size W ⟨_,rfl,(hk.below (hb.mono hN)).mono (Bh hN hb.size)⟩ h1 T h2)
 have aB:=hid (fun b v W (hb:Bd w W) (h1:Bytes W W.heap.size v b)=>QoF u.sg.hd.vals b _ v N W.heap.size W (h2.below (hb.mono hN)) h1)
 have HR:=hid (fun W (hb:Bd w W)=>And.intro (E.below hb E.lt).cell ((G.below hb G.lt).cell 0))
 have hgl:=E.lt;have hnl:=G.lt;clear h1 h2 h3 h4 h5 hu hk E G m S M L
 go_in
 go_upto_region 1 with fail
 refine JO ?_;intro w0 F hs;clear hs;have k0:=F.r0.cell
 go_wp2_with fail
 refine (Y.out _ F.b).mono ?_;rintro e w1 ⟨rfl,hb⟩;replace F:=F.go hb;clear hb k0
 by_cases h0:Zm u.sg=0
 ·replace HE:=hid (HE.out.trans (if_neg (by simp [h0])))
  replace HL:=hid (fun k v W hb h1=>HL.out k v W hb h1 h0)
  have aC:=hid (QaO (QaD h0).1).2.1;rw [h0];clear h0;have k0:=F.r0.cell;obtain ⟨k1,k2⟩:=HR.out _ F.b
  go_wp2_with fail
  refine (aA.out _ F.b).mono ?_;rintro e w2 ⟨hb,p1,d1,p2,d2,rfl,I,A⟩;replace F:=F.go hb;have hsz:=F.b.size;clear hb k0 k1 k2
  cases ha:atK c.known u.frm with
  | none =>
   have HZ:=hid (show QB c u now=6 by rw [HE.out,ha])
   have HB:=hid F.b;simp only [Option.isSome];clear F I A;generalize QeS c.known u.frm=k at *;go_wp2;go_ret;exact ⟨by rw [HZ.out];rfl,HB.out.alloc HB.out.size _⟩
  | some k =>
   replace HE:=hid (show QB c u now=Qdq c k u now by rw [HE.out,ha])
   have O:=hid ((Qet k).1 (((Yc c).1 aE).2.2.2.1 k (QgZ ha).1)).1;rw [QfD ha] at I A ⊢;simp only [Option.isSome];have HX:=hid (And.intro I A);clear ha I A
   go_upto_region 5 with fail
   refine F.box ?_;intro w3 F3 aF j;have k0:=F3.r0.cell;clear aF F
   go_upto_region 8 with fail
   refine F3.box ?_;intro w4 F aG q;have C:=hid (fun W (hb:Bd w4 W)=>(show KnV W W.heap.size (.agg #[Bb k.height,Bb k.time,.slice p1 k.root.length d1,.slice p2 k.next.length d2]) k from ⟨_,_,rfl,(HX.out.1.below ((j.trans (q.mono j.size)).trans (hb.mono (Bh j.size q.size)))).mono (Bh j.size (Bh q.size hb.size)),(HX.out.2.below ((j.trans (q.mono j.size)).trans (hb.mono (Bh j.size q.size)))).mono (Bh j.size (Bh q.size hb.size))⟩))
   clear k0 aG F3 j q;have k0:=F.r0.cell;have k3:=F.r1.cell;have k4:=F.r2.cell;obtain ⟨k1,k2⟩:=HR.out _ F.b
   by_cases D:u.sg.hd.chain=c.chain
   ·have e1:(u.sg.hd.chain.toList == c.chain.toList)=true:=by simp [D]
    have d:=hid (HE.out.trans (if_neg (by simp [D])))
    clear D HE
    go_wp2_with fail
    refine (aD.out k _ w4 F.b (C.out _ (Bi _ _)) (by have:=O.out;omega)).mono ?_
    rintro e w5 ⟨rfl,hb⟩;have F5:=F.go hb;replace C:=hid (C.out _ hb);clear hb F k0 k1 k2 k3 k4;have k0:=F5.r0.cell;have k3:=F5.r1.cell;have k4:=F5.r2.cell;obtain ⟨k1,k2⟩:=HR.out _ F5.b
    by_cases ht:c.trust≤now-k.time
    ·replace d:=hid (d.out.trans (if_pos ht))
     rw [show decide (now-k.time<c.trust)=false by simp;omega]
     go_wp2;go_ret;exact ⟨by rw [d.out];rfl,F5.b⟩
    replace d:=hid (d.out.trans (if_neg ht));rw [show decide (now-k.time<c.trust)=true by simp;omega]
    clear ht
    by_cases hh:u.sg.hd.height≤k.height
    ·replace d:=hid (d.out.trans (if_pos hh))
     have e3:decide (u.sg.hd.height≤k.height)=true:=by simpa using hh
     go_wp2;go_ret;exact ⟨by rw [d.out];rfl,F5.b⟩
    replace d:=hid (d.out.trans (if_neg hh));have e3:decide (u.sg.hd.height≤k.height)=false:=by simpa using hh
    have ww:IntKind.i64.wrap (u.sg.hd.time-now)=u.sg.hd.time-now:=by have:=aC.out;rw [Ce];omega
    clear hh
    by_cases h4:u.sg.hd.time≤k.time∨10<u.sg.hd.time-now
    ·replace d:=hid (d.out.trans (if_pos h4))
     have e5:decide (u.sg.hd.time≤k.time)=false→decide (10<u.sg.hd.time-now)=true:=by simp;omega
     clear h4
     cases e4:decide (u.sg.hd.time≤k.time) with
     | true =>
      go_wp2;go_ret;exact ⟨by rw [d.out];rfl,F5.b⟩
     | false =>
      have e6:=e5 e4;go_wp2;go_ret;exact ⟨by rw [d.out];rfl,F5.b⟩
    replace d:=hid (d.out.trans (if_neg h4));have e4:decide (u.sg.hd.time≤k.time)=false:=by simp;omega
    have e5:decide (10<u.sg.hd.time-now)=false:=by simp;omega
    have w1':IntKind.i64.wrap (k.height+1)=k.height+1:=by have:=O.out;rw [Ce];omega
    clear h4
    by_cases h5:u.sg.hd.height=k.height+1
    ·replace d:=hid (d.out.trans (if_pos h5))
     have e6:(u.sg.hd.height == k.height+1)=true:=by simpa using h5
     clear h5;obtain ⟨_,_,e,-,A⟩:=C.out;simp only [BX,BP,BM,true_and,BQ] at e;obtain ⟨rfl,rfl⟩:=e;have HP:=hid (aB.out k.next _ w5 F5.b A);have HB:=hid F5.b;clear A
     go_wp2_with fail
     refine HP.out.mono ?_;rintro e w6 ⟨rfl,rfl⟩;go_wp2;go_ret;exact ⟨by rw [d.out];rfl,HB.out⟩
    ·replace d:=hid (d.out.trans (if_neg h5))
     have e6:(u.sg.hd.height == k.height+1)=false:=by simpa using h5
     clear h5;have HP:=hid (HL.out k _ w5 F5.b C.out)
     go_wp2_with (first | refine F5.load 1 rfl Y5 ?_ | refine F5.load 0 rfl Zu ?_)
     refine HP.out.mono ?_;rintro e w6 ⟨rfl,hb⟩;have HB:=hid (F5.go hb).b;clear hb F5 k0 k1 k2 k3 k4;go_wp2;go_ret;exact ⟨by rw [d.out];rfl,HB.out⟩
   ·have e1:=Qvg D
    replace HE:=hid (HE.out.trans (if_pos D));go_wp2;go_ret;exact ⟨by rw [HE.out];rfl,F.b⟩
 ·replace HE:=hid (HE.out.trans (if_pos h0))
  have e2:(Zm u.sg != 0)=true:=by simpa using h0
  have HB:=hid F.b;clear h0 F;generalize Zm u.sg=z at *;go_wp2;go_ret;exact ⟨by rw [HE.out];rfl,HB.out⟩
theorem Qhl (c:Cl) (now:Int) (oa:Option Addr) (ca:Nat) (b:Bool) (n:Nat) (w:World) :
  Calls prog 138 #[.agg #[.string c.chain,Bb c.trust,.bool b,.slice oa n ca],Bb now] w fun e w'=>e=.returned (.func (.func 176) #[] #[.pointer (some ⟨w.heap.size,0,none⟩),.pointer (some ⟨w.heap.size+1,0,none⟩)])∧Row w' w.heap.size 78 [.string c.chain,Bb c.trust,.bool b,.slice oa n ca]∧Row w' (w.heap.size+1) 3 [Bb now]∧Bd w w':=by
 obtain ⟨w0,d⟩:∃ w0,(w.alloc (.cells #[.string c.chain,Bb c.trust,.bool b,.slice oa n ca] 78)).alloc (.cells #[Bb now] 3)=w0:=⟨_,rfl⟩;have j:=hid (show Bd w w0 by rw [← d];exact ((Bi _ _).alloc (Bj _) _).alloc (by simp) _)
 have m:=hid (show Row w0 w.heap.size 78 [.string c.chain,Bb c.trust,.bool b,.slice oa n ca] by rw [← d];exact (Row.new _ _ _).alloc _)
 have q:=hid (show Row w0 (w.heap.size+1) 3 [Bb now] by rw [← d];exact Row.newAt _ _ _ _ (by simp))
 have z:=hid d;clear d
 go_in
 go_wp2;go_ret;rw [z.out];exact ⟨rfl,m.out,q.out,j.out⟩
def Qtu (f:FuncId):Prop:=∀ (c:Cl) (u:Up) (now:Int) (cv uv:Value) (N:Nat) (w:World),Qi w→N≤w.heap.size→ClV w N cv c→UpV w N uv u→c.fits→u.fits →
 Calls prog f #[cv,uv,Bb now] w fun e w'=>Bd w w'∧∃ o n m,e=.returned (.tuple #[.agg #[.string (YK c u now).chain,Bb (YK c u now).trust,.bool (YK c u now).frozen,.slice o n m],Bb (Zh c u now)])∧YP w' w.heap.size (.slice o n m) (YK c u now).known
theorem Qhq {u:Up} {now:Int} (h:Zh c u now≠0):YK c u now=Cl.none:=by unfold YK;rw [if_neg h]
theorem Qf1 {u:Up} {now:Int} (h:Zh c u now=0):YK c u now=Yv c (Qkz u.sg.hd):=by unfold YK;rw [if_pos h]
def Qtr (c:List Value) (now:Int) (X:Value) (W:World):Prop:=∃ g h,X=.func (.func 176) #[] #[.pointer (some ⟨g,0,none⟩),.pointer (some ⟨h,0,none⟩)]∧Row W g 78 c∧Row W h 3 [Bb now]
theorem Qtr.stay (c:List Value) (now:Int):Yr (Qtr c now):=fun _ _ _ hb ⟨g,h,e,h1,h2⟩=>⟨g,h,e,h1.below hb h1.lt,h2.below hb h2.lt⟩
def Qtq (base:Nat) (k:Kn) (X:Value) (W:World):Prop:=∃ rv nv,X=.agg #[Bb k.height,Bb k.time,rv,nv]∧Qq W base rv k.root∧Qq W base nv k.next
theorem Qtq.stay (base:Nat) (k:Kn):Yr (Qtq base k):=fun _ _ _ hb ⟨r,n,e,h1,h2⟩=>⟨r,n,e,QU h1 hb,QU h2 hb⟩
theorem Qpq: Qtu 105:=by
 intro c u now cv uv N w A hN O T D E;have M:=hid (fun W (hb:Bd w W)=>QmU c now cv N W (O.below (hb.mono hN)) (Bh hN hb.size) D)
 have C:=hid (fun (h:c.known.length≤1000) W (hb:Bd w W)=>QaE c cv N W (O.below (hb.mono hN)) (Bh hN hb.size) D h)
 obtain ⟨kv,rfl,hk⟩:=O;obtain ⟨oa,ca,rfl,-⟩:=hk.shape;obtain ⟨o1,c1,o2,c2,o3,c3,o4,c4,o5,c5,o6,c6,rfl,h1,h2,h3,-⟩:=T.open;have j:=hid (fun (h0:QW c now=0) W (hb:Bd w W) gc gn (r1:Row W gc 78 [.string c.chain,Bb c.trust,.bool c.frozen,.slice oa c.known.length ca]) (r2:Row W gn 3 [Bb now])=>Qjj c u now gc gn oa ca _ N W (A.below hb A.lt) (Bh hN hb.size) r1 r2 (hk.below (hb.mono hN)) (T.below (hb.mono hN)) D E h0)
 have aF:=hid (fun W (hb:Bd w W)=>Qcw (Qkz u.sg.hd) (.agg #[Bb u.sg.hd.height,Bb u.sg.hd.time,.slice o1 u.sg.hd.root.length c1,.slice o3 u.sg.hd.next.length c3]) N W ⟨_,_,rfl,h1.below (hb.mono hN),h3.below (hb.mono hN)⟩ (Bh hN hb.size) ⟨E.1.1.2.1,E.1.1.2.2.2⟩)
 have HE:=hid (show Zh c u now=if QW c now≠0 then QW c now else QB c u now from rfl)
 clear hk h1 h2 h3 A D E T
 go_in
 go_upto_region 1 with fail
 refine JP ?_;intro w0 F hs;clear hs
 go_wp2_with (refine F.load 0 rfl Qm ?_)
 refine (M.out _ F.b).mono ?_;rintro e w1 ⟨rfl,hb⟩;replace F:=F.go hb;clear hb
 by_cases ha:QW c now=0
 ·replace HE:=hid (HE.out.trans (if_neg (by simp [ha])))
  obtain ⟨aC,-,aD⟩:=QaL ha;obtain ⟨-,-,⟨-,G⟩,-,L⟩:=(Yc c).1 aC;have HX:=hid (And.intro aD (And.intro G L));replace j:=hid (j.out ha);replace C:=hid (C.out (by omega))
  rw [ha];clear ha aC aD G L M
  go_upto_region 4 with fail
  have HF:=hid F;clear F;apply QC (by kernel_rfl) (fun W hb=>And.intro (HF.out.go hb).r0.cell (HF.out.go hb).r1.cell) (by kernel_rfl)
  ·intro σ;simp [Qj];exact rfl
  iterate 2 (apply RK.val rfl;· intro σ W hb hc ⟨hd,hu⟩;simp at hd hu;go_simp;exact rfl)
  apply RK.callG (Qtr [.string c.chain,Bb c.trust,.bool c.frozen,.slice oa c.known.length ca] now) (Qtr.stay _ _) rfl
  ·intro σ W hb hc ⟨hd,hu⟩;simp at hd hu
   refine ⟨_,_,by go_simp <;> first | exact rfl | exact ⟨rfl,rfl⟩,(Qhl c now oa ca c.frozen c.known.length W).mono ?_⟩
   rintro e w' ⟨rfl,h1,h2,d⟩;exact ⟨_,rfl,d,_,_,rfl,h1,h2⟩
  apply RK.val rfl;· intro σ W hb hc ⟨hd,hu⟩;simp at hd hu;go_simp;exact rfl
  apply RK.callG _ (Yr.eq (Bb (QB c u now))) rfl
  ·intro σ W hb hc ⟨hd,hu⟩;simp at hd hu
   obtain ⟨⟨g,h,e,h1,h2⟩,e2⟩:=hd;have HP:=hid (j.out W (HF.out.go hb).b g h h1 h2);clear h1 h2;refine ⟨_,_,by go_simp <;> first | exact rfl | exact ⟨rfl,rfl⟩,HP.out.mono ?_⟩
   rintro e w' ⟨rfl,d⟩;exact ⟨_,rfl,d,rfl⟩
  apply RK.val rfl;· intro σ W hb hc ⟨hd,hu⟩;simp at hd hu;go_simp;exact rfl
  intro σ w2 hb _;simp only [Jm,Bv,By,Nat.reduceAdd];intro hF;obtain ⟨-,-,-,-,-,e5,-⟩:=hF;have F:=HF.out.go hb;rw [e5];clear hb e5 HF j
  by_cases hz:QB c u now=0
  ·replace HE:=hid (HE.out.trans hz)
   rw [hz];clear hz;have k1:=F.r1.cell
   go_upto_region 8 with fail
   refine F.box ?_;intro w3 F3 hs hb;have HF:=hid F3;have aJ:=hid (F3.lts);clear hs hb F F3 k1;apply JR 12 (by kernel_rfl) (fun W hb=>And.intro (HF.out.go hb).r0.cell (HF.out.go hb).r3.cell) (by kernel_rfl)
   ·intro σ;simp [Qj];exact rfl
   apply RK.val rfl;· intro σ W hb hc ⟨hd,hu⟩;simp at hd hu;go_simp;exact rfl
   apply RK.callG (Qo8 w3.heap.size c) (Qo8.stay _ _) rfl
   ·intro σ W hb hc ⟨hd,hu⟩;simp at hd hu
    refine ⟨_,_,by go_simp <;> first | exact rfl | exact ⟨rfl,rfl⟩,(C.out W (HF.out.go hb).b).mono ?_⟩
    rintro e w' ⟨d,o,m,ps,rfl,h1,h2⟩;exact ⟨_,rfl,d,o,m,ps,rfl,h1.mono hb.size,h2⟩
   iterate 9 (apply RK.val rfl;· intro σ W hb hc ⟨hd,hu⟩;simp at hd hu;go_simp;exact rfl)
   apply RK.callG (Qtq w3.heap.size (Qkz u.sg.hd)) (Qtq.stay _ _) rfl
   ·intro σ W hb hc ⟨hd,hu⟩;simp at hd hu
    refine ⟨_,_,by go_simp <;> first | exact rfl | exact ⟨rfl,rfl⟩,(aF.out W (HF.out.go hb).b).mono ?_⟩
    rintro e w' ⟨d,p1,d1,p2,d2,rfl,h1,h2⟩;exact ⟨_,rfl,d,_,_,rfl,h1.mono hb.size,h2.mono hb.size⟩
   intro σ W hb _;simp only [Jm,Bv,By,Nat.reduceAdd];intro hF;obtain ⟨-,⟨o,m,ps,e1,I,S⟩,-,-,-,-,-,-,-,-,-,⟨rv,nv,aA,hr,hn⟩,-⟩:=hF;have Y:=hid (QpX c ps ⟨Qkz u.sg.hd,rv,nv⟩ o m w3.heap.size W S HX.out.1 I ⟨hr,hn⟩ hb.size HX.out.2.2 (by have:=Bl List.length S;rw [Bp] at this;have:=HX.out.2.1;omega))
   have aG:=hid (HF.out.go hb);simp only [BU,BS,e1,aA,HX.out.1];clear hb I S hr hn e1 aA
   go_wp2_with fail
   refine Y.out.mono ?_;rintro e w5 ⟨aB,o',n',m',rfl,aE⟩;have F5:=aG.out.past aB HF.out.b.size aJ.out;have aH:=hid aE;have aI:=hid HF.out.b.size;clear aB aE Y
   go_wp2_with (refine F5.store 2 rfl Qm (by simp) ?_;intro w6 F6 O6)
   refine Ql results105 rfl F6.r2 Qm rfl ⟨F6.b,o',n',m',by rw [Qf1 HE.out,QhD.1,QhD.2,HE.out];rfl,?_⟩
   rw [Qf1 HE.out];obtain ⟨p,h1,h2⟩:=aH.out;exact ⟨p,(h1.only F5.r2 O6).mono aI.out,h2⟩
  ·have e0:(QB c u now != 0)=true:=by simpa using hz
   replace HE:=hid (HE.out.trans rfl);have q:=hid (Qhq (c:=c) (u:=u) (now:=now) (by rw [HE.out];exact hz))
   clear hz;generalize QB c u now=z at *
   go_wp2_with (refine F.store 2 rfl Qm (by simp) ?_;intro w6 F6 O6)
   refine Ql results105 rfl F6.r2 Qm rfl ⟨F6.b,none,0,0,by rw [q.out,HE.out];rfl,?_⟩
   rw [q.out];exact YP.nil _ _
 ·have e0:(QW c now != 0)=true:=by simpa using ha
  replace HE:=hid (HE.out.trans (if_pos ha));have q:=hid (Qhq (c:=c) (u:=u) (now:=now) (by rw [HE.out];exact ha))
  clear ha j C M;generalize QW c now=z at *
  go_wp2_with (refine F.store 2 rfl Qm (by simp) ?_;intro w6 F6 O6)
  refine Ql results105 rfl F6.r2 Qm rfl ⟨F6.b,none,0,0,by rw [q.out,HE.out];rfl,?_⟩
  rw [q.out];exact YP.nil _ _
end Go.Proofs.YtnedafiokmjkkaaGreatDoor
