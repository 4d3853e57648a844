/- Each message has its place; what is done leaves a right stat. -/
import Derived.Test.YtnedafiokmjkkaaGreatDoorpaApObey
namespace Go.Proofs.YtnedafiokmjkkaaGreatDoor
set_option maxRecDepth 1000000
set_option maxHeartbeats 8000000
open Go.RowKit
variable {s:St} {ch:Int} {p:Pk} {n:Nat} {c:Cl}
theorem Qg5 {l:List Cn} (hf:s.fits) (hl:l.length<2305843009213693952):({ s with conns:=l }:St).fits:=⟨hf.1,hf.2.1,hl,hf.2.2.2⟩
theorem QlG {c o:Int} (h:Qau s c o=0):JX s c=0:=by
 unfold Qau at h
 split at h
 ·rename_i h1;exact absurd h h1
 ·rename_i h1;simpa using h1
theorem Qn6 {c o z:Int} (h:Qcl s c o ch z=0):JX s c=0:=by
 unfold Qcl at h
 split at h
 ·rename_i h1;exact absurd h h1
 ·rename_i h1;simpa using h1
structure Qdl (s:St) (i:Int) (t:St):Prop where
 right:Qd t=0
 fit:t.fits
 rest:({ t with conns:=s.conns }:St)=s
 len:s.conns.length≤t.conns.length
 same:∀ (k:Nat) (c:Cn),s.conns[k]?=some c→(c.state=3∨(k:Int)≠i)→t.conns[k]?=some c
theorem QfY {i:Int} {c:Cn} (hf:s.fits) (hw:Qd s=0) (hl:s.conns.length<8) (hc:Jf c=0):Qdl s i (QmJ s 0 c):=by
 have e:QmJ s 0 c={ s with conns:=s.conns ++ [c] }:=if_pos rfl
 rw [e];refine ⟨Qgl hw (by simp;omega) ?_,Qg5 hf (by simp;omega),rfl,by simp,?_⟩
 ·intro x hx
  rcases By.1 hx with hx | hx
  ·exact (QE hw).conns x hx
  ·simp at hx
   rw [hx];exact hc
 ·intro k x hx _
  rw [Cw (Bm.1 hx).1];exact hx
theorem QfZ {i:Int} {x c:Cn} (hf:s.fits) (hw:Qd s=0) (hi:0≤i) (hx:s.conns[i.toNat]?=some x) (h3:x.state≠3) (hc:Jf c=0):Qdl s i (Ql8 s 0 i c):=by
 have e:Ql8 s 0 i c={ s with conns:=s.conns.set i.toNat c }:=if_pos rfl
 have h8:s.conns.length≤8:=by
  have:=(Q0 hw).2.2.1;unfold QaY at this;have:=Dm this;omega
 rw [e];refine ⟨Qgl hw (by simpa using h8) ?_,Qg5 hf (by simp;omega),rfl,by simp,?_⟩
 ·intro y hy
  rcases Dk hy with hy | hy
  ·exact (QE hw).conns y hy
  ·rw [hy]
   exact hc
 ·intro k y hy hk
  by_cases b:i.toNat=k
  ·subst b
   rw [hx] at hy
   cases hy
   rcases hk with hk | hk
   ·exact absurd hk h3
   ·omega
  ·simp only
   rw [BZ b];exact hy
theorem QlR (h:QbK s=0):s.conns.length<8:=by
 unfold QbK at h
 split at h
 ·cases h
 ·omega
theorem Qks {i c o:Int} (hf:s.fits) (h:Qau s c o=0):Qdl s i (QlH s c o):=by
 have h0:=QlG h;have hw:=QbQ h0;have hl:=Qal (Qbs h0);have hc:=(QG hw).1;unfold QlH;rw [h];unfold Qau at h;rw [if_neg (by simp [h0])] at h
 split at h
 ·cases h
 rename_i h1;have ho:=(Q6 0 o).1 (by simpa using h1)
 exact QfY hf hw (QlR h) (Qap (by omega) (by omega) (by omega) (by omega))
theorem Qlz {i c o z:Int} (hf:s.fits) (h:Qcl s c o ch z=0):Qdl s i (Qs5 s c o ch z):=by
 have h0:=Qn6 h;have hw:=QbQ h0;have hl:=Qal (Qbs h0);have hc:=(QG hw).1;unfold Qs5;rw [h];unfold Qcl at h;rw [if_neg (by simp [h0])] at h
 split at h
 ·cases h
 rename_i h1
 split at h
 ·rename_i h2;exact absurd h h2
 simp at h1;have ho:=(Q6 0 o).1 h1.1;have hq:=(Q6 0 ch).1 h1.2;exact QfY hf hw (QlR h) (Qap (by omega) (by omega) (by omega) (by omega))
theorem Qrs {i st:Int} (h:Qb3 s i st=0):Qd s=0∧0≤i∧∃ x,s.conns[i.toNat]?=some x∧Yb s i=x∧x.state=st∧Jf x=0:=by
 obtain ⟨hw,hi,d,_⟩:=Y0 h;have b:i.toNat<s.conns.length:=by omega
 have hx:s.conns[i.toNat]?=some s.conns[i.toNat]:=Bk b;have hc:Yb s i=s.conns[i.toNat]:=by unfold Yb;rw [hx];rfl
 exact ⟨hw,hi.1,_,hx,hc,by rw [← hc];exact d,(QE hw).conns _ (Bn hx)⟩
theorem Qly {i z:Int} (hf:s.fits) (h:Qio s i ch z=0):Qdl s i (QqT s i ch z):=by
 unfold QqT;rw [h];unfold Qio at h
 split at h
 ·rename_i h1;exact absurd h h1
 rename_i h1
 split at h
 ·cases h
 rename_i h2;obtain ⟨hw,hi,x,hx,hc,hst,b⟩:=Qrs (by simpa using h1)
 have hk:=Zm b;have hq:=(Q6 0 ch).1 (by simpa using h2)
 rw [hc];exact QfZ hf hw hi hx (by omega) (Qap (by omega) (by omega) (by omega) (by omega))
theorem Qkq {i z:Int} (hf:s.fits) (h:QcO s i z=0):Qdl s i (Qll s i z):=by
 unfold Qll;rw [h];unfold QcO at h
 split at h
 ·rename_i h1;exact absurd h h1
 rename_i h1;obtain ⟨hw,hi,x,hx,hc,hst,b⟩:=Qrs (by simpa using h1)
 have hk:=Zm b;rw [hc];exact QfZ hf hw hi hx (by omega) (Qap (by omega) (by omega) (by omega) (by omega))
theorem QaJ (h:Qd s=0):QP s.sent=0∧QP s.got=0∧QP s.acks=0∧(s.chans.length≤8∧s.sent.length≤50∧s.got.length≤50∧s.acks.length≤50):=by
 obtain ⟨h1,h2,h3,h4⟩:=Q0 h;have h5:=Dm (show decide _=false from h3);have h':=(JS _).1 h4;simp only [Bo,BL,BN,Cu,CO] at h';exact ⟨h'.2.2.2.1,h'.2.2.2.2.1,h'.2.2.2.2.2.1,by omega⟩
theorem Qcp {l:List Ch} {a b c:List Mk} (h:Qd s=0) (hl:l.length≤8) (hc:∀ c∈l,QZ c=0) (ha:QP a=0∧a.length≤50) (hb:QP b=0∧b.length≤50) (hk:QP c=0∧c.length≤50):Qd { s with chans:=l,sent:=a,got:=b,acks:=c }=0:=by
 obtain ⟨h1,h2,h3,h4⟩:=Q0 h;have h5:=Dm (show decide _=false from h3);unfold Qd;rw [if_neg (by simp [h1]),if_neg (by simp [h2.1,h2.2]),if_neg (by simp [QaY];omega)]
 have h':=(JS _).1 h4;simp only [Bo,BL,BN,Cu,CO] at h';refine (JS _).2 ?_;simp only [Bo,BL,BN,Cu,CO];exact ⟨h'.1,h'.2.1,(Yv _ _).2 hc,ha.1,hb.1,hk.1,h'.2.2.2.2.2.2⟩
theorem QfB {l:List Mk} (h:QP l=0):∀ m∈l,m.fits:=fun m hm=>by
 have:=(Qoj ((Y3 h).1 m hm)).2.2;unfold Mk.fits;omega
theorem QeF {l:List Ch} {a b c:List Mk} (hf:s.fits) (hl:l.length≤8) (ha:QP a=0∧a.length≤50) (hb:QP b=0∧b.length≤50) (hk:QP c=0∧c.length≤50):({ s with chans:=l,sent:=a,got:=b,acks:=c }:St).fits :=
 ⟨hf.1,hf.2.1,hf.2.2.1,(show l.length<2305843009213693952 by omega),⟨(show a.length<2305843009213693952 by omega),QfB ha.1⟩,⟨(show b.length<2305843009213693952 by omega),QfB hb.1⟩,⟨(show c.length<2305843009213693952 by omega),QfB hk.1⟩,hf.2.2.2.2.2.2.2⟩
theorem Qep {seq:Int} {d:Bg} (h1:0≤ch∧ch≤1000000000000) (h2:1≤seq∧seq≤1000000000000) (h3:d.length=32):Yj ⟨ch,seq,d⟩=0:=by
 unfold Yj;rw [if_neg (by simp [Qs];omega),if_neg (by simpa using h3)]
theorem QfH {j:Nat} {c:Ch} (h:Qd s=0) (hc:QZ c=0):(s.chans.set j c).length≤8∧∀ x∈s.chans.set j c,QZ x=0 :=
 ⟨by rw [C5];exact (QaJ h).2.2.2.1,fun x hx=>by
  rcases Dk hx with hx | rfl
  ·exact (QE h).chans x hx
  ·exact hc⟩
theorem Qd4 {t:St} {i:Int} {l:List Int} {j:Nat} {c d:Ch} (hi:i=(j:Int)) (ht:Qd t=0) (hd:t.chans[j]?=some d) (h1:d.state∈l) (h2:d.conn=c.conn) (h3:t.conns=s.conns∧t.clients=s.clients∧t.time=s.time) (ho:Qax s c.conn=0):Ja t i l=0:=by
 subst hi;have hl:j<t.chans.length:=(Bm.1 hd).1;unfold Ja;rw [if_neg (by simp [ht]),if_neg (by omega),Yo hd,if_pos h1,h2]
 unfold Qax Yb ZN Qiu at *;rw [h3.1,h3.2.1,h3.2.2];exact ho
theorem QgX {j:Nat} {c d:Ch} (hc:s.chans[j]?=some c):(s.chans.set j d)[j]?=some d:=Dz (Bm.1 hc).1
theorem QjG (h:YT s p n=0):Qy p=0∧Ja s p.dst [3]=0∧(s.got.length<50∧s.acks.length<50)∧n≤150∧(Qx s p.dst).recv<1000000000000∧Qcv s (Qx s p.dst) p=false∧(Qx s p.dst).ochan=p.src∧s.height<p.tmo:=by
 unfold YT at h
 split at h
 ·rename_i h1;exact absurd h h1
 rename_i h1
 split at h
 ·rename_i h2;exact absurd h h2
 rename_i h2
 split at h
 ·cases h
 rename_i h3
 split at h
 ·cases h
 rename_i h4
 split at h
 ·cases h
 rename_i h5
 split at h
 ·cases h
 rename_i h6;exact ⟨by simpa using h1,by simpa using h2,by omega,by omega,by omega,by simpa using h5,by simpa using h3,by omega⟩
theorem QnF (h:YT s p n=0):Qcv s (Qx s p.dst) p=false:=(QjG h).2.2.2.2.2.1
theorem QjL (h:Jg s p=0):Qy p=0∧Ja s p.src [3,4]=0∧(Qx s p.src).ochan=p.dst∧∃ m,ZL s.sent p.src p.seq=some m∧m.dig=Jd p:=by
 unfold Jg at h
 split at h
 ·rename_i h1;exact absurd h h1
 rename_i h1
 split at h
 ·rename_i h2;exact absurd h h2
 rename_i h2
 split at h
 ·cases h
 rename_i h3
 cases hm:ZL s.sent p.src p.seq with
 | none=>rw [hm] at h;cases h
 | some m =>
  rw [hm] at h;simp only at h
  split at h
  ·cases h
  rename_i h4;exact ⟨by simpa using h1,by simpa using h2,by simpa using h3,m,rfl,by simpa using h4⟩
theorem Qpz {ack:Bg} (hr:YT s p ack.length=0) (hf:s.fits):Qd (Qcz s p ack)=0∧(Qcz s p ack).fits∧∀ n,YT (Qcz s p ack) p n=12:=by
 obtain ⟨S,T,hm,-,aB,-,L,hht⟩:=QjG hr;have E:=YY S;obtain ⟨j,k,m,c,d,f,z,hj,D,hck,hd,hdm,hff,hfo,aD,hwf,-⟩:=YZ T;obtain ⟨hw,-,O,M⟩:=Yn T;rw [D] at aB L O M;have I:=Jw aD;have b:=QaJ hw;have hlg:=QfN s.got ⟨p.dst,p.seq,Jd p⟩ (Y3 b.2.1).2;have hla:=QfN s.acks ⟨p.dst,p.seq,sha ack⟩ (Y3 b.2.2.1).2;have C:QP (QW s.acks ⟨p.dst,p.seq,sha ack⟩)=0∧(QW s.acks ⟨p.dst,p.seq,sha ack⟩).length≤50:=⟨Qdg b.2.2.1 (Qep E.2.1 E.2.2.1 (QQ _)),by omega⟩
 have hS:QP s.sent=0∧s.sent.length≤50:=⟨b.1,b.2.2.2.2.1⟩
 cases ho:c.ordered with
 | true =>
  have e:Qcz s p ack={ s with chans:=s.chans.set j c.recv1,sent:=s.sent,got:=s.got,acks:=QW s.acks ⟨p.dst,p.seq,sha ack⟩ }:=by
   unfold Qcz QbP;rw [D,if_pos ho,z];rfl
  have aA:QZ c.recv1=0:=YA I.1 I.2.1 I.2.2.1 (by simp only [Ch.recv1];omega)
  obtain ⟨g1,g2⟩:=QfH (j:=j) hw aA;have A:=Qcp hw g1 g2 hS ⟨b.2.1,b.2.2.2.2.2.1⟩ C;refine ⟨by rw [e];exact A,by rw [e];exact QeF hf g1 hS ⟨b.2.1,b.2.2.2.2.2.1⟩ C,fun n=>?_⟩
  rw [e];have Y:=QgX (d:=c.recv1) hj
  have q:=Qd4 (t:={ s with chans:=s.chans.set j c.recv1,sent:=s.sent,got:=s.got,acks:=QW s.acks ⟨p.dst,p.seq,sha ack⟩ }) (l:=[3]) z A Y O rfl ⟨rfl,rfl,rfl⟩ M
  have G:Qx { s with chans:=s.chans.set j c.recv1,sent:=s.sent,got:=s.got,acks:=QW s.acks ⟨p.dst,p.seq,sha ack⟩ } p.dst=c.recv1:=by rw [z];exact Yo Y
  have aC:p.seq=c.recv:=by
   have:=QnF hr;rw [D] at this;unfold Qcv at this;rw [if_pos ho] at this;simpa using this
  unfold YT;rw [if_neg (by simp [S]),if_neg (by simp [q]),G,if_neg (by simp [Ch.recv1,L]),if_neg (by simp only;omega),if_pos]
  unfold Qcv;rw [if_pos (by simp [Ch.recv1,ho])]
  simp [Ch.recv1,aC];omega
 | false =>
  have e:Qcz s p ack={ s with chans:=s.chans,sent:=s.sent,got:=QW s.got ⟨p.dst,p.seq,Jd p⟩,acks:=QW s.acks ⟨p.dst,p.seq,sha ack⟩ }:=by
   unfold Qcz;rw [D,if_neg (by simp [ho])]
  have hG:QP (QW s.got ⟨p.dst,p.seq,Jd p⟩)=0∧(QW s.got ⟨p.dst,p.seq,Jd p⟩).length≤50:=⟨Qdg b.2.1 (Qep E.2.1 E.2.2.1 (QQ _)),by omega⟩
  have A:=Qcp hw b.2.2.2.1 (QE hw).chans hS hG C;refine ⟨by rw [e];exact A,by rw [e];exact QeF hf b.2.2.2.1 hS hG C,fun n=>?_⟩
  rw [e]
  have q:=Qd4 (t:={ s with chans:=s.chans,sent:=s.sent,got:=QW s.got ⟨p.dst,p.seq,Jd p⟩,acks:=QW s.acks ⟨p.dst,p.seq,sha ack⟩ }) (l:=[3]) z A hj O rfl ⟨rfl,rfl,rfl⟩ M
  have G:Qx { s with chans:=s.chans,sent:=s.sent,got:=QW s.got ⟨p.dst,p.seq,Jd p⟩,acks:=QW s.acks ⟨p.dst,p.seq,sha ack⟩ } p.dst=c:=by rw [z];exact Yo hj
  unfold YT;rw [if_neg (by simp [S]),if_neg (by simp [q]),G,if_neg (by simp [L]),if_neg (by simp only;omega),if_pos]
  unfold Qcv;rw [if_neg (by simp [ho])]
  have:=QqF s.got ⟨p.dst,p.seq,Jd p⟩;simp only at this;simp [this]
theorem Qhl {c':Ch} (hr:Jg s p=0) (hf:s.fits) (h1:(Qx s p.src).ordered=true→QZ c'=0∧c'.conn=(Qx s p.src).conn∧c'.ochan=(Qx s p.src).ochan∧c'.state∈([3,4]:List Int)):Qd (JA s p c')=0∧(JA s p c').fits∧Jg (JA s p c') p=6:=by
 obtain ⟨I,A,D,mk,hmk,-⟩:=QjL hr;have hpo:=YY I;obtain ⟨j,k,m,c,d,f,z,hj,q,hck,hd,hdm,hff,hfo,hwc,hwf,-⟩:=YZ A;obtain ⟨hw,-,G,E⟩:=Yn A;rw [q] at D G E h1;have b:=QaJ hw;have hlw:=QkY s.sent p.src p.seq;have hS:QP (QX s.sent p.src p.seq)=0∧(QX s.sent p.src p.seq).length≤50:=⟨Qie b.1,by omega⟩
 have hG:QP s.got=0∧s.got.length≤50:=⟨b.2.1,b.2.2.2.2.2.1⟩;have hK:QP s.acks=0∧s.acks.length≤50:=⟨b.2.2.1,b.2.2.2.2.2.2⟩
 have fin:∀ (l:List Ch) (x:Ch),JA s p c'={ s with chans:=l,sent:=QX s.sent p.src p.seq,got:=s.got,acks:=s.acks }→l.length≤8→(∀ c∈l,QZ c=0)→l[j]?=some x→x.state∈([3,4]:List Int)→x.conn=c.conn→x.ochan=c.ochan→Qd (JA s p c')=0∧(JA s p c').fits∧Jg (JA s p c') p=6:=by
  intro l x e g1 g2 g3 g4 g5 g6;have L:=Qcp hw g1 g2 hS hG hK;refine ⟨by rw [e];exact L,by rw [e];exact QeF hf g1 hS hG hK,?_⟩
  rw [e]
  have C:=Qd4 (t:={ s with chans:=l,sent:=QX s.sent p.src p.seq,got:=s.got,acks:=s.acks }) (l:=[3,4]) z L g3 g4 g5 ⟨rfl,rfl,rfl⟩ E
  have M:Qx { s with chans:=l,sent:=QX s.sent p.src p.seq,got:=s.got,acks:=s.acks } p.src=x:=by rw [z];exact Yo g3
  unfold Jg;rw [if_neg (by simp [I]),if_neg (by simp [C]),M,if_neg (by simp [g6,D]),QkX]
 cases ho:c.ordered with
 | true =>
  obtain ⟨q1,q2,q3,q4⟩:=h1 ho;obtain ⟨g1,g2⟩:=QfH (j:=j) hw q1;refine fin (s.chans.set j c') c' ?_ g1 g2 (QgX hj) q4 q2 q3;unfold JA QbP;rw [q,if_pos ho,z];rfl
 | false =>
  refine fin s.chans c ?_ b.2.2.2.1 (QE hw).chans hj G rfl rfl;unfold JA;rw [q,if_neg (by simp [ho])]
theorem Qm8 {c:Ch} {z:Int} (h:QdI c p n z=0):c.ordered=true→c.ack<1000000000000:=by
 intro ho;unfold QdI at h
 split at h
 ·cases h
 split at h
 ·cases h
 split at h
 ·cases h
 rename_i h3;have:¬ (1000000000000≤c.ack):=fun h=>h3 ⟨ho,h⟩
 omega
theorem Qnx {z:Int} (h:Zp s p n z=0):Jg s p=0∧QdI (Qx s p.src) p n z=0:=by
 unfold Zp at h
 split at h
 ·rename_i h1;exact absurd h h1
 ·rename_i h1;exact ⟨by simpa using h1,h⟩
theorem Qnm {next z:Int} (h:ZB s p next ch z=0):Jg s p=0:=by
 unfold ZB at h
 split at h
 ·rename_i h1;exact absurd h h1
 ·rename_i h1;simpa using h1
theorem QnK {z:Int} (h:Qay s p n z=0):YT s p n=0:=by
 unfold Qay at h
 split at h
 ·rename_i h1;exact absurd h h1
 ·rename_i h1;simpa using h1
theorem QjM (h:Jg s p=0):QZ (Qx s p.src)=0∧(Qx s p.src).state∈([3,4]:List Int):=by
 obtain ⟨-,b,-⟩:=QjL h;obtain ⟨j,k,m,c,d,f,hij,hj,e,-,-,-,-,-,z,-⟩:=YZ b;obtain ⟨-,-,q,-⟩:=Yn b;exact ⟨by rw [e];exact z,q⟩
theorem QiT {z:Int} (h:Zp s p n z=0) (hf:s.fits):Qd (JA s p (Qx s p.src).ack1)=0∧(JA s p (Qx s p.src).ack1).fits∧Jg (JA s p (Qx s p.src).ack1) p=6:=by
 obtain ⟨h1,h2⟩:=Qnx h;obtain ⟨hw,d⟩:=QjM h1;have b:=Jw hw;exact Qhl h1 hf fun ho=>⟨YA b.1 b.2.1 b.2.2.1 (by have:=Qm8 h2 ho;simp only [Ch.ack1];omega),rfl,rfl,d⟩
theorem QnW {next z:Int} (h:ZB s p next ch z=0) (hf:s.fits):Qd (JA s p (Qx s p.src).shut)=0∧(JA s p (Qx s p.src).shut).fits∧Jg (JA s p (Qx s p.src).shut) p=6:=by
 have h1:=Qnm h;obtain ⟨hw,hst⟩:=QjM h1;have b:=Jw hw;exact Qhl h1 hf fun ho=>⟨YA (by simp [Ch.shut]) b.2.1 b.2.2.1 b.2.2.2,rfl,rfl,by simp [Ch.shut]⟩
theorem Qt6 {b send:Int} (h:QiG s p b send=0):Qy p=0∧s.sent.length<50∧send<1000000000000:=by
 unfold QiG at h
 split at h
 ·rename_i h1;exact absurd h h1
 rename_i h1
 split at h
 ·cases h
 split at h
 ·cases h
 rename_i h3;exact ⟨by simpa using h1,by omega,by omega⟩
theorem QsK {i:Int} {d:Bg} {tmo:Int} (h:YO s i d tmo=0):Ja s i [3]=0∧QiG s (Jv s i d tmo) (QeO (Qbh s i)) (Qx s i).send=0:=by
 unfold YO at h
 split at h
 ·rename_i h1;exact absurd h h1
 ·rename_i h1;exact ⟨by simpa using h1,h⟩
theorem QsO {i:Int} {d:Bg} {tmo:Int} (h:YO s i d tmo=0) (hf:s.fits):∃ (j:Nat) (c:Ch),i=(j:Int)∧s.chans[j]?=some c∧Qx s i=c∧(0≤c.send∧c.send<1000000000000)∧(Qc6 s (Jv s i d tmo)).fits∧Qd (Qc6 s (Jv s i d tmo))=0∧(Qc6 s (Jv s i d tmo)).chans[j]?=some c.sent1∧s.sent.length≤(Qc6 s (Jv s i d tmo)).sent.length:=by
 obtain ⟨A,ho⟩:=QsK h;obtain ⟨O,hsl,E⟩:=Qt6 ho;obtain ⟨j,k,m,c,cn,f,C,hj,q,-,-,-,-,-,M,-⟩:=YZ A;obtain ⟨hw,-⟩:=Yn A;have D:=YY O;rw [q] at E;have z:=Jw M;have b:=QaJ hw;have I:=QfN s.sent ⟨i,c.send,Jd (Jv s i d tmo)⟩ (Y3 b.1).2
 have e:Qc6 s (Jv s i d tmo)={ s with chans:=s.chans.set j c.sent1,sent:=QW s.sent ⟨i,c.send,Jd (Jv s i d tmo)⟩,got:=s.got,acks:=s.acks }:=by
  have e1:(Jv s i d tmo).src=i:=rfl;have e2:(Jv s i d tmo).seq=c.send:=by show (Qx s i).send=_;rw [q]
  unfold Qc6 QbP;rw [e1,e2,q,C];rfl
 have G:QZ c.sent1=0:=YA z.1 z.2.1 z.2.2.1 (by simp only [Ch.sent1];omega)
 obtain ⟨g1,g2⟩:=QfH (j:=j) hw G;have L:(Jv s i d tmo).seq=c.send:=by show (Qx s i).send=_;rw [q]
 have hS:QP (QW s.sent ⟨i,c.send,Jd (Jv s i d tmo)⟩)=0∧(QW s.sent ⟨i,c.send,Jd (Jv s i d tmo)⟩).length≤50:=⟨Qdg b.1 (Qep D.1 (by have:=D.2.2.1;rw [L] at this;exact this) (QQ _)),by omega⟩
 refine ⟨j,c,C,hj,q,⟨by omega,E⟩,?_,?_,?_,?_⟩
 ·rw [e];exact QeF hf g1 hS ⟨b.2.1,b.2.2.2.2.2.1⟩ ⟨b.2.2.1,b.2.2.2.2.2.2⟩
 ·rw [e];exact Qcp hw g1 g2 hS ⟨b.2.1,b.2.2.2.2.2.1⟩ ⟨b.2.2.1,b.2.2.2.2.2.2⟩
 ·rw [e];exact QgX hj
 ·rw [e];exact I.1
theorem QfO (h:Qd s=0) (hc:c∈s.clients):QA c=0:=by
 obtain ⟨-,-,-,h4⟩:=Q0 h;have:=(JS _).1 h4;simp only [Bo,BL,BN,Cu,CO] at this;exact (Yv _ _).1 this.1 c hc
theorem QdY {l:List Cl} (h:Qd s=0) (hl:l.length≤4) (hc:∀ c∈l,QA c=0):Qd { s with clients:=l }=0:=by
 obtain ⟨h1,h2,h3,h4⟩:=Q0 h;have h5:=Dm (show decide _=false from h3);unfold Qd;rw [if_neg (by simp [h1]),if_neg (by simp [h2.1,h2.2]),if_neg (by simp [QaY];omega)]
 have h':=(JS _).1 h4;simp only [Bo,BL,BN,Cu,CO] at h';refine (JS _).2 ?_;simp only [Bo,BL,BN,Cu,CO];exact ⟨(Yv _ _).2 hc,h'.2⟩
def Yk (k:Int) (s t:St):Prop :=
 if k≤3 then ({ t with clients:=s.clients }:St)=s
 else if k≤7 then ({ t with conns:=s.conns }:St)=s
 else if k≤13 then ({ t with chans:=s.chans }:St)=s
 else if k=18 then ({ t with purses:=s.purses }:St)=s
 else ({ t with chans:=s.chans,sent:=s.sent,got:=s.got,acks:=s.acks,purses:=s.purses }:St)=s
theorem Yk.same {k:Int} {t:St} (h:Yk k s t):t.name=s.name∧t.height=s.height∧t.time=s.time:=by
 unfold Yk at h
 split at h
 ·exact ⟨(Bl St.name h :),(Bl St.height h :),(Bl St.time h :)⟩
 split at h
 ·exact ⟨(Bl St.name h :),(Bl St.height h :),(Bl St.time h :)⟩
 split at h
 ·exact ⟨(Bl St.name h :),(Bl St.height h :),(Bl St.time h :)⟩
 split at h
 ·exact ⟨(Bl St.name h :),(Bl St.height h :),(Bl St.time h :)⟩
 ·exact ⟨(Bl St.name h :),(Bl St.height h :),(Bl St.time h :)⟩
theorem QrR {l:List Pu} (hr:Q1 l) (hl:l.length≤60) {ch:Nat} {t:Tr} (ht:t.amount<18446744073709551616) (he:QcY l ch t=0):Q1 (Qb9 l ch t)∧(Qb9 l ch t).length≤60:=by
 unfold QcY at he;unfold Qb9
 split at he
 ·rename_i hc
  rw [if_pos hc];have:=Qgz hr he;exact ⟨this.right,Bh this.len hl⟩
 ·rename_i hc
  rw [if_neg hc];exact ⟨(Qbm hr hl ht he).right,(Qbm hr hl ht he).len⟩
theorem QtA {l:List Pu} (hr:Q1 l) (hl:l.length≤60) {ch:Nat} {t:Tr} (ht:t.amount<18446744073709551616) (he:QdD l ch t=0):Q1 (Qex l ch t)∧(Qex l ch t).length≤60:=by
 unfold QdD at he;unfold Qex
 split at he
 ·rename_i hc
  rw [if_pos hc];exact ⟨(QeT hr hl ht he).1.right,(QeT hr hl ht he).1.len⟩
 ·rename_i hc
  rw [if_neg hc];exact ⟨(Qbm hr hl ht he).right,(Qbm hr hl ht he).len⟩
theorem Qgw (hf:s.fits):∀ p∈s.purses,p.amount<18446744073709551616:=fun p hp=>(hf.2.2.2.2.2.2.2.2 p hp).2.2
theorem QgM {l:List Pu} (h:Q1 l):∀ p∈l,p.amount<18446744073709551616:=fun p hp=>(h.ok p hp).2.2.2
theorem Qgb (hw:Qd s=0) (hf:s.fits) (h:ZH s p=0):Qd (J9 s p)=0∧(∀ q∈(J9 s p).purses,q.amount<18446744073709551616)∧({ J9 s p with purses:=s.purses }:St)=s:=by
 unfold ZH at h;unfold J9
 by_cases h1:Jj p.data≠0
 ·rw [if_pos h1]
  exact ⟨hw,Qgw hf,rfl⟩
 ·rw [if_neg h1] at h ⊢
  rw [if_pos h];have hU:=JF hw hf;have:=QtA hU.2 hU.1 (Zr p.data).1 h;exact ⟨QaG hw this.1 this.2,QgM this.1,rfl⟩
theorem Qnf (s:St) (p:Pk) (c:Ch):({ JA s p c with chans:=s.chans,sent:=s.sent }:St)=s:=by
 unfold JA QbP
 by_cases h:(Qx s p.src).ordered=true
 ·rw [if_pos h]
 ·rw [if_neg h]
theorem Qpy (s:St) (p:Pk) (a:Bg):({ Qcz s p a with chans:=s.chans,got:=s.got,acks:=s.acks }:St)=s:=by
 unfold Qcz QbP
 by_cases h:(Qx s p.dst).ordered=true
 ·rw [if_pos h]
 ·rw [if_neg h]
theorem QhL {k:Int} {t:St} (hk:13<k∧k≠18) (h:t.name=s.name∧t.height=s.height∧t.time=s.time∧t.clients=s.clients∧t.conns=s.conns):Yk k s t:=by
 unfold Yk;rw [if_neg (by omega),if_neg (by omega),if_neg (by omega),if_neg hk.2]
 obtain ⟨a,b,c,d,e,f,g,i,j,l⟩:=t;obtain ⟨h1,h2,h3,h4,h5⟩:=h;simp only at h1 h2 h3 h4 h5;subst h1 h2 h3 h4 h5;rfl
theorem Qry (s:St) (p:Pk) (c:Ch):(JA s p c).name=s.name∧(JA s p c).height=s.height∧(JA s p c).time=s.time∧(JA s p c).clients=s.clients∧(JA s p c).conns=s.conns :=
 have h:=Qnf s p c
 ⟨(Bl St.name h :),(Bl St.height h :),(Bl St.time h :),(Bl St.clients h :),(Bl St.conns h :)⟩
theorem Qv4 (s:St) (p:Pk) (a:Bg):(Qcz s p a).name=s.name∧(Qcz s p a).height=s.height∧(Qcz s p a).time=s.time∧(Qcz s p a).clients=s.clients∧(Qcz s p a).conns=s.conns :=
 have h:=Qpy s p a
 ⟨(Bl St.name h :),(Bl St.height h :),(Bl St.time h :),(Bl St.clients h :),(Bl St.conns h :)⟩
theorem QoL {t:St} (h0:({ J9 t p with purses:=t.purses }:St)=t) (h:t.name=s.name∧t.height=s.height∧t.time=s.time∧t.clients=s.clients∧t.conns=s.conns):(J9 t p).name=s.name∧(J9 t p).height=s.height∧(J9 t p).time=s.time∧(J9 t p).clients=s.clients∧(J9 t p).conns=s.conns :=
 ⟨(Bl St.name h0 :).trans h.1,(Bl St.height h0 :).trans h.2.1,(Bl St.time h0 :).trans h.2.2.1,(Bl St.clients h0 :).trans h.2.2.2.1,(Bl St.conns h0 :).trans h.2.2.2.2⟩
theorem QmR (p:Pk) (hw:Qd s=0) (hf:s.fits):Qd (Qaf s p)=0∧(Qaf s p).fits∧(Qaf s p).name=s.name∧(Qaf s p).height=s.height∧(Qaf s p).time=s.time∧(Qaf s p).clients=s.clients∧(Qaf s p).conns=s.conns:=by
 unfold Qaf
 by_cases h:QcN s p=true
 ·rw [if_pos h]
  have hU:=JF hw hf;have hz:Qbv s.purses p.dst p.src (QS p.data)=0:=by unfold QcN at h;simp at h;exact h.2.2
  have:=Qli hU.2 hU.1 (Zr p.data).1 hz;exact ⟨QaG hw this.1 this.2,Qc5 hf this.1 this.2,rfl,rfl,rfl,rfl,rfl⟩
 ·rw [if_neg h]
  exact ⟨hw,hf,rfl,rfl,rfl,rfl,rfl⟩
theorem QqS (s:St) (p:Pk):(Qk5 s p).length=1:=by unfold Qk5;split <;> rfl
theorem Qp6 (s:St) (m:Ms) (z:Int) (hf:s.fits) (L:m.fits) (hw:Qd s=0) (h:(QM s m z).err=0):Qd (QM s m z).st=0∧(∀ p∈(QM s m z).st.purses,p.amount<18446744073709551616)∧Yk m.kind s (QM s m z).st:=by
 have hU:=JF hw hf;have hA:=Qgw hf
 by_cases h1:m.kind=1
 ·rw [show QM s m z=Qr6 s m from if_pos h1] at h ⊢
  have he:QkA s m=0:=h
  have hs:(Qr6 s m).st={ s with clients:=s.clients ++ [YP m.chain m.trust m.known] }:=if_pos he
  rw [hs];unfold QkA at he
  split at he
  ·cases he
  ·refine ⟨QdY hw (by simp;omega) fun c hc=>?_,hA,by unfold Yk;rw [if_pos (by omega)]⟩
   rcases By.1 hc with hc | hc
   ·exact QfO hw hc
   ·obtain rfl:=BR.1 hc;exact he
 by_cases h2:m.kind=2∨m.kind=3
 ·rw [show QM s m z=Y8 (Qmv s m) (Qgh s m) from (if_neg h1).trans (if_pos h2)] at h ⊢
  have he:Qgh s m=0:=h;rw [show Qmv s m=_ from if_pos he];unfold Qgh at he
  split at he
  ·cases he
  ·rename_i hr
   obtain ⟨k,hk⟩:∃ k:Nat,m.client=(k:Int):=⟨m.client.toNat,by omega⟩
   obtain ⟨x,hx⟩:∃ x,s.clients[k]?=some x:=⟨_,Bk (by omega)⟩
   rw [hk,QaL hx] at he ⊢;refine ⟨QdY hw (by have:=(Q0 hw).2.2.1;simp [QaY] at this;simp;omega) fun c hc=>?_,hA,by unfold Yk;rw [if_pos (by omega)]⟩
   rcases Dk hc with hc | rfl
   ·exact QfO hw hc
   ·unfold QbT
    unfold Qfd at he
    split at he
    ·rename_i h3
     rw [if_pos h3];unfold QbY;rw [if_pos he];have:=QfO hw (Bn hx);exact this
    ·rename_i h3
     rw [if_neg h3];exact (Qko he).2.2
 by_cases h4:m.kind=4
 ·unfold QM at h ⊢
  rw [if_neg h1,if_neg h2,if_pos h4] at h ⊢;have he:Qau s m.client m.other=0:=h;have hF:=Qks (i:=0) hf he;have hp:=Bl St.purses hF.rest;exact ⟨hF.right,(hp:_=s.purses) ▸ hA,by unfold Yk;rw [if_neg (by omega),if_pos (by omega)];exact hF.rest⟩
 by_cases h5:m.kind=5
 ·unfold QM at h ⊢
  rw [if_neg h1,if_neg h2,if_neg h4,if_pos h5] at h ⊢;have he:Qcl s m.client m.other m.oend z=0:=h;have hF:=Qlz (i:=0) hf he;have hp:=Bl St.purses hF.rest;exact ⟨hF.right,(hp:_=s.purses) ▸ hA,by unfold Yk;rw [if_neg (by omega),if_pos (by omega)];exact hF.rest⟩
 by_cases h6:m.kind=6
 ·unfold QM at h ⊢
  rw [if_neg h1,if_neg h2,if_neg h4,if_neg h5,if_pos h6] at h ⊢;have he:Qio s m.fin m.oend z=0:=h;have hF:=Qly hf he;have hp:=Bl St.purses hF.rest;exact ⟨hF.right,(hp:_=s.purses) ▸ hA,by unfold Yk;rw [if_neg (by omega),if_pos (by omega)];exact hF.rest⟩
 by_cases h7:m.kind=7
 ·unfold QM at h ⊢
  rw [if_neg h1,if_neg h2,if_neg h4,if_neg h5,if_neg h6,if_pos h7] at h ⊢;have he:QcO s m.fin z=0:=h;have hF:=Qkq hf he;have hp:=Bl St.purses hF.rest;exact ⟨hF.right,(hp:_=s.purses) ▸ hA,by unfold Yk;rw [if_neg (by omega),if_pos (by omega)];exact hF.rest⟩
 by_cases h8:m.kind=8
 ·unfold QM at h ⊢
  rw [if_neg h1,if_neg h2,if_neg h4,if_neg h5,if_neg h6,if_neg h7,if_pos h8] at h ⊢;have he:Qaq s m.fin=0:=h;have hF:=Qiz (j:=0) (o:=m.ordered) hf he;have hp:=Bl St.purses hF.rest;exact ⟨hF.right,(hp:_=s.purses) ▸ hA,by unfold Yk;rw [if_neg (by omega),if_neg (by omega),if_pos (by omega)];exact hF.rest⟩
 by_cases h9:m.kind=9
 ·unfold QM at h ⊢
  rw [if_neg h1,if_neg h2,if_neg h4,if_neg h5,if_neg h6,if_neg h7,if_neg h8,if_pos h9] at h ⊢;have he:Qag s m.fin m.oend z=0:=h;have hF:=Qkr (j:=0) (o:=m.ordered) hf he;have hp:=Bl St.purses hF.rest;exact ⟨hF.right,(hp:_=s.purses) ▸ hA,by unfold Yk;rw [if_neg (by omega),if_neg (by omega),if_pos (by omega)];exact hF.rest⟩
 by_cases b:m.kind=10
 ·unfold QM at h ⊢
  rw [if_neg h1,if_neg h2,if_neg h4,if_neg h5,if_neg h6,if_neg h7,if_neg h8,if_neg h9,if_pos b] at h ⊢;have he:QdF s m.fin m.oend z=0:=h;have hF:=Qkp hf he;have hp:=Bl St.purses hF.rest;exact ⟨hF.right,(hp:_=s.purses) ▸ hA,by unfold Yk;rw [if_neg (by omega),if_neg (by omega),if_pos (by omega)];exact hF.rest⟩
 by_cases d:m.kind=11
 ·unfold QM at h ⊢
  rw [if_neg h1,if_neg h2,if_neg h4,if_neg h5,if_neg h6,if_neg h7,if_neg h8,if_neg h9,if_neg b,if_pos d] at h ⊢;have he:Zi s m.fin 2 z=0:=h;have hF:=QdL (te:=3) hf (by decide) (by decide) (by decide) he
  have hp:=Bl St.purses hF.rest;exact ⟨hF.right,(hp:_=s.purses) ▸ hA,by unfold Yk;rw [if_neg (by omega),if_neg (by omega),if_pos (by omega)];exact hF.rest⟩
 by_cases e:m.kind=12
 ·unfold QM at h ⊢
  rw [if_neg h1,if_neg h2,if_neg h4,if_neg h5,if_neg h6,if_neg h7,if_neg h8,if_neg h9,if_neg b,if_neg d,if_pos e] at h ⊢;have he:Jt s m.fin 3=0:=h;have hF:=QiA hf he;have hp:=Bl St.purses hF.rest;exact ⟨hF.right,(hp:_=s.purses) ▸ hA,by unfold Yk;rw [if_neg (by omega),if_neg (by omega),if_pos (by omega)];exact hF.rest⟩
 by_cases q:m.kind=13
 ·unfold QM at h ⊢
  rw [if_neg h1,if_neg h2,if_neg h4,if_neg h5,if_neg h6,if_neg h7,if_neg h8,if_neg h9,if_neg b,if_neg d,if_neg e,if_pos q] at h ⊢;have he:Zi s m.fin 3 z=0:=h;have hF:=QdL (te:=4) hf (by decide) (by decide) (by decide) he
  have hp:=Bl St.purses hF.rest;exact ⟨hF.right,(hp:_=s.purses) ▸ hA,by unfold Yk;rw [if_neg (by omega),if_neg (by omega),if_pos (by omega)];exact hF.rest⟩
 by_cases A:m.kind=14
 ·unfold QM at h ⊢
  rw [if_neg h1,if_neg h2,if_neg h4,if_neg h5,if_neg h6,if_neg h7,if_neg h8,if_neg h9,if_neg b,if_neg d,if_neg e,if_neg q,if_pos A] at h ⊢;have he:QfI s m=0:=h;have hs:Qqx s m=_:=if_pos he;rw [show (⟨Qqx s m,QfI s m,0,Quh s m⟩:Out).st=Qqx s m from rfl,hs];unfold QfI at he
  split at he
  ·rename_i hh;exact absurd he hh
  split at he
  ·rename_i hh;exact absurd he hh
  rename_i hh;have M:YO s m.fin (QF m.tr) m.tmo=0:=by simpa using hh
  obtain ⟨j,c,-,-,-,-,hft,O,-⟩:=QsO M hf;have hL:=QrR hU.2 hU.1 L.2.2.2.2.2.1.2.1 he;exact ⟨QaG O hL.1 hL.2,QgM hL.1,QhL (by omega) ⟨rfl,rfl,rfl,rfl,rfl⟩⟩
 by_cases C:m.kind=15
 ·unfold QM at h ⊢
  rw [if_neg h1,if_neg h2,if_neg h4,if_neg h5,if_neg h6,if_neg h7,if_neg h8,if_neg h9,if_neg b,if_neg d,if_neg e,if_neg q,if_neg A,if_pos C] at h ⊢;have he:Qay (Qaf s m.pk) m.pk 1 z=0:=h;obtain ⟨q1,q2,q3⟩:=QmR m.pk hw hf;have I:Qay (Qaf s m.pk) m.pk (Qk5 s m.pk).length z=0:=by rw [QqS];exact he
  rw [show (Y8 (Qt9 s m.pk z) (Qqk s m.pk z)).st=Qcz (Qaf s m.pk) m.pk (Qk5 s m.pk) from if_pos I];obtain ⟨g1,g2,-⟩:=Qpz (QnK I) q2;have g5:=Qv4 (Qaf s m.pk) m.pk (Qk5 s m.pk);exact ⟨g1,Qgw g2,QhL (by omega) ⟨g5.1.trans q3.1,g5.2.1.trans q3.2.1,g5.2.2.1.trans q3.2.2.1,g5.2.2.2.1.trans q3.2.2.2.1,g5.2.2.2.2.trans q3.2.2.2.2⟩⟩
 by_cases D:m.kind=16
 ·unfold QM at h ⊢
  rw [if_neg h1,if_neg h2,if_neg h4,if_neg h5,if_neg h6,if_neg h7,if_neg h8,if_neg h9,if_neg b,if_neg d,if_neg e,if_neg q,if_neg A,if_neg C,if_pos D] at h ⊢;have he:QqV s m z=0:=h
  show Qd (QmK s m z)=0∧(∀ p∈(QmK s m z).purses,p.amount<18446744073709551616)∧Yk m.kind s (QmK s m z)
  unfold QmK;unfold QqV at he
  split at he
  ·rename_i hc
   rw [if_pos hc,show Zq s m.pk m.ack.length z=JA s m.pk (Qx s m.pk.src).ack1 from if_pos he];obtain ⟨g1,g2,-⟩:=QiT he hf;exact ⟨g1,Qgw g2,QhL (by omega) (Qry _ _ _)⟩
  ·rename_i hc
   rw [if_neg hc]
   have hp:Zp s m.pk m.ack.length z=0:=by
    by_cases hp:Zp s m.pk m.ack.length z=0
    ·exact hp
    ·exact absurd (.inl hp) hc
   rw [show Zq s m.pk m.ack.length z=JA s m.pk (Qx s m.pk.src).ack1 from if_pos hp] at he ⊢;obtain ⟨g1,g2,-⟩:=QiT hp hf;obtain ⟨r1,r2,r3⟩:=Qgb g1 g2 he;exact ⟨r1,r2,QhL (by omega) (QoL r3 (Qry _ _ _))⟩
 by_cases E:m.kind=17
 ·unfold QM at h ⊢
  rw [if_neg h1,if_neg h2,if_neg h4,if_neg h5,if_neg h6,if_neg h7,if_neg h8,if_neg h9,if_neg b,if_neg d,if_neg e,if_neg q,if_neg A,if_neg C,if_neg D,if_pos E] at h ⊢;have he:QrX s m z=0:=h
  show Qd (Qnr s m z)=0∧(∀ p∈(Qnr s m z).purses,p.amount<18446744073709551616)∧Yk m.kind s (Qnr s m z)
  unfold Qnr;unfold QrX at he
  split at he
  ·rename_i hc;exact absurd he hc
  ·rename_i hc
   rw [if_neg hc];have hp:ZB s m.pk m.next m.sh.height z=0:=by simpa using hc
   rw [show ZC s m.pk m.next m.sh.height z=JA s m.pk (Qx s m.pk.src).shut from if_pos hp] at he ⊢;obtain ⟨g1,g2,-⟩:=QnW hp hf;obtain ⟨r1,r2,r3⟩:=Qgb g1 g2 he;exact ⟨r1,r2,QhL (by omega) (QoL r3 (Qry _ _ _))⟩
 by_cases G:m.kind=18
 ·unfold QM at h ⊢
  rw [if_neg h1,if_neg h2,if_neg h4,if_neg h5,if_neg h6,if_neg h7,if_neg h8,if_neg h9,if_neg b,if_neg d,if_neg e,if_neg q,if_neg A,if_neg C,if_neg D,if_neg E,if_pos G] at h ⊢;have he:Qbi s m.tr=0:=h;rw [show (Qjm s m).st=_ from if_pos he];unfold Qbi at he
  split at he
  ·rename_i hc;exact absurd he hc
  ·have hM:=Qbm hU.2 hU.1 L.2.2.2.2.2.1.2.1 he
   exact ⟨QaG hw hM.right hM.len,QgM hM.right,by unfold Yk;rw [if_neg (by omega),if_neg (by omega),if_neg (by omega),if_pos G]⟩
 unfold QM at h;rw [if_neg h1,if_neg h2,if_neg h4,if_neg h5,if_neg h6,if_neg h7,if_neg h8,if_neg h9,if_neg b,if_neg d,if_neg e,if_neg q,if_neg A,if_neg C,if_neg D,if_neg E,if_neg G] at h
 cases h
end Go.Proofs.YtnedafiokmjkkaaGreatDoor
