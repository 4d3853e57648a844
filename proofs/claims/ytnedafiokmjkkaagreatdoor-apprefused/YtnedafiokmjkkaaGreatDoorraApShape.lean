/- Each message has its place; what is done leaves a right stat. -/
import Derived.Test.YtnedafiokmjkkaaGreatDoorraApObey
namespace Go.Proofs.YtnedafiokmjkkaaGreatDoor
set_option maxRecDepth 1000000
set_option maxHeartbeats 8000000
open Go.RowKit
variable {s:St} {ch:Int} {p:Pk} {n:Nat} {c:Cl}
theorem Qhb {l:List Cn} (hf:s.fits) (hl:l.length<2305843009213693952):({ s with conns:=l }:St).fits:=⟨hf.1,hf.2.1,hl,hf.2.2.2⟩
theorem Qqc: St.none.fits:=⟨by decide,⟨by decide,fun _ h=>by cases h⟩,by decide,by decide,⟨by decide,fun _ h=>by cases h⟩,⟨by decide,fun _ h=>by cases h⟩,⟨by decide,fun _ h=>by cases h⟩,by decide,fun _ h=>by cases h⟩
theorem QlK {c o:Int} (h:Qat s c o=0):JY s c=0:=by
 unfold Qat at h
 split at h
 ·rename_i h1;exact absurd h h1
 ·rename_i h1;simpa using h1
theorem Qod {c o z:Int} (h:Qco s c o ch z=0):JY s c=0:=by
 unfold Qco at h
 split at h
 ·rename_i h1;exact absurd h h1
 ·rename_i h1;simpa using h1
structure Qdn (s:St) (i:Int) (t:St):Prop where
 right:Qd t=0
 fit:t.fits
 rest:({ t with conns:=s.conns }:St)=s
 len:s.conns.length≤t.conns.length
 same:∀ (k:Nat) (c:Cn),s.conns[k]?=some c→(c.state=3∨(k:Int)≠i)→t.conns[k]?=some c
theorem Qf2 {i:Int} {c:Cn} (hf:s.fits) (hw:Qd s=0) (hl:s.conns.length<8) (hc:Jf c=0):Qdn s i (QmR s 0 c):=by
 have e:QmR s 0 c={ s with conns:=s.conns ++ [c] }:=if_pos rfl
 rw [e];refine ⟨Qgp hw (by simp;omega) ?_,Qhb hf (by simp;omega),rfl,by simp,?_⟩
 ·intro x hx
  rcases Bz.1 hx with hx | hx
  ·exact (QD hw).conns x hx
  ·simp at hx
   rw [hx];exact hc
 ·intro k x hx _
  rw [Cw (Bm.1 hx).1];exact hx
theorem Qf3 {i:Int} {x c:Cn} (hf:s.fits) (hw:Qd s=0) (hi:0≤i) (hx:s.conns[i.toNat]?=some x) (h3:x.state≠3) (hc:Jf c=0):Qdn s i (Qmd s 0 i c):=by
 have e:Qmd s 0 i c={ s with conns:=s.conns.set i.toNat c }:=if_pos rfl
 have h8:s.conns.length≤8:=by
  have:=(QV hw).2.2.1;unfold Qav at this;have:=Dl this;omega
 rw [e];refine ⟨Qgp hw (by simpa using h8) ?_,Qhb hf (by simp;omega),rfl,by simp,?_⟩
 ·intro y hy
  rcases Dj hy with hy | hy
  ·exact (QD hw).conns y hy
  ·rw [hy]
   exact hc
 ·intro k y hy hk
  by_cases b:i.toNat=k
  ·subst b
   rw [hx] at hy
   cases hy
   rcases hk with hk | hk
   ·exact absurd hk h3
   ·omega
  ·simp only
   rw [BZ b];exact hy
theorem QlV (h:QbN s=0):s.conns.length<8:=by
 unfold QbN at h
 split at h
 ·cases h
 ·omega
theorem Qkw {i c o:Int} (hf:s.fits) (h:Qat s c o=0):Qdn s i (QlL s c o):=by
 have h0:=QlK h;have hw:=QbT h0;have hl:=Qak (Qbu h0);have hc:=(QF hw).1;unfold QlL;rw [h];unfold Qat at h;rw [if_neg (by simp [h0])] at h
 split at h
 ·cases h
 rename_i h1;have ho:=(Q6 0 o).1 (by simpa using h1)
 exact Qf2 hf hw (QlV h) (Qao (by omega) (by omega) (by omega) (by omega))
theorem QlD {i c o z:Int} (hf:s.fits) (h:Qco s c o ch z=0):Qdn s i (Qtc s c o ch z):=by
 have h0:=Qod h;have hw:=QbT h0;have hl:=Qak (Qbu h0);have hc:=(QF hw).1;unfold Qtc;rw [h];unfold Qco at h;rw [if_neg (by simp [h0])] at h
 split at h
 ·cases h
 rename_i h1
 split at h
 ·rename_i h2;exact absurd h h2
 simp at h1;have ho:=(Q6 0 o).1 h1.1;have hq:=(Q6 0 ch).1 h1.2;exact Qf2 hf hw (QlV h) (Qao (by omega) (by omega) (by omega) (by omega))
theorem QrC {i st:Int} (h:Qb6 s i st=0):Qd s=0∧0≤i∧∃ x,s.conns[i.toNat]?=some x∧Yd s i=x∧x.state=st∧Jf x=0:=by
 obtain ⟨hw,hi,d,_⟩:=Y0 h;have b:i.toNat<s.conns.length:=by omega
 have hx:s.conns[i.toNat]?=some s.conns[i.toNat]:=Bk b;have hc:Yd s i=s.conns[i.toNat]:=by unfold Yd;rw [hx];rfl
 exact ⟨hw,hi.1,_,hx,hc,by rw [← hc];exact d,(QD hw).conns _ (Bn hx)⟩
theorem QlC {i z:Int} (hf:s.fits) (h:Qiu s i ch z=0):Qdn s i (Qq3 s i ch z):=by
 unfold Qq3;rw [h];unfold Qiu at h
 split at h
 ·rename_i h1;exact absurd h h1
 rename_i h1
 split at h
 ·cases h
 rename_i h2;obtain ⟨hw,hi,x,hx,hc,hst,b⟩:=QrC (by simpa using h1)
 have hk:=Zo b;have hq:=(Q6 0 ch).1 (by simpa using h2)
 rw [hc];exact Qf3 hf hw hi hx (by omega) (Qao (by omega) (by omega) (by omega) (by omega))
theorem Qku {i z:Int} (hf:s.fits) (h:QcT s i z=0):Qdn s i (Qlp s i z):=by
 unfold Qlp;rw [h];unfold QcT at h
 split at h
 ·rename_i h1;exact absurd h h1
 rename_i h1;obtain ⟨hw,hi,x,hx,hc,hst,b⟩:=QrC (by simpa using h1)
 have hk:=Zo b;rw [hc];exact Qf3 hf hw hi hx (by omega) (Qao (by omega) (by omega) (by omega) (by omega))
theorem QaK (h:Qd s=0):QP s.sent=0∧QP s.got=0∧QP s.acks=0∧(s.chans.length≤8∧s.sent.length≤50∧s.got.length≤50∧s.acks.length≤50):=by
 obtain ⟨h1,h2,h3,h4⟩:=QV h;have h5:=Dl (show decide _=false from h3);have h':=(JD _).1 h4;simp only [Bo,BG,BJ,Cu,CO] at h';exact ⟨h'.2.2.2.1,h'.2.2.2.2.1,h'.2.2.2.2.2.1,by omega⟩
theorem Qcu {l:List Ch} {a b c:List Mk} (h:Qd s=0) (hl:l.length≤8) (hc:∀ c∈l,Q0 c=0) (ha:QP a=0∧a.length≤50) (hb:QP b=0∧b.length≤50) (hk:QP c=0∧c.length≤50):Qd { s with chans:=l,sent:=a,got:=b,acks:=c }=0:=by
 obtain ⟨h1,h2,h3,h4⟩:=QV h;have h5:=Dl (show decide _=false from h3);unfold Qd;rw [if_neg (by simp [h1]),if_neg (by simp [h2.1,h2.2]),if_neg (by simp [Qav];omega)]
 have h':=(JD _).1 h4;simp only [Bo,BG,BJ,Cu,CO] at h';refine (JD _).2 ?_;simp only [Bo,BG,BJ,Cu,CO];exact ⟨h'.1,h'.2.1,(Yu _ _).2 hc,ha.1,hb.1,hk.1,h'.2.2.2.2.2.2⟩
theorem QfG {l:List Mk} (h:QP l=0):∀ m∈l,m.fits:=fun m hm=>by
 have:=(Qoq ((Y3 h).1 m hm)).2.2;unfold Mk.fits;omega
theorem QeK {l:List Ch} {a b c:List Mk} (hf:s.fits) (hl:l.length≤8) (ha:QP a=0∧a.length≤50) (hb:QP b=0∧b.length≤50) (hk:QP c=0∧c.length≤50):({ s with chans:=l,sent:=a,got:=b,acks:=c }:St).fits :=
 ⟨hf.1,hf.2.1,hf.2.2.1,(show l.length<2305843009213693952 by omega),⟨(show a.length<2305843009213693952 by omega),QfG ha.1⟩,⟨(show b.length<2305843009213693952 by omega),QfG hb.1⟩,⟨(show c.length<2305843009213693952 by omega),QfG hk.1⟩,hf.2.2.2.2.2.2.2⟩
theorem Qeu {seq:Int} {d:Bg} (h1:0≤ch∧ch≤1000000000000) (h2:1≤seq∧seq≤1000000000000) (h3:d.length=32):JT ⟨ch,seq,d⟩=0:=by
 unfold JT;rw [if_neg (by simp [Qs];omega),if_neg (by simpa using h3)]
theorem QfM {j:Nat} {c:Ch} (h:Qd s=0) (hc:Q0 c=0):(s.chans.set j c).length≤8∧∀ x∈s.chans.set j c,Q0 x=0 :=
 ⟨by rw [C5];exact (QaK h).2.2.2.1,fun x hx=>by
  rcases Dj hx with hx | rfl
  ·exact (QD h).chans x hx
  ·exact hc⟩
theorem Qd7 {t:St} {i:Int} {l:List Int} {j:Nat} {c d:Ch} (hi:i=(j:Int)) (ht:Qd t=0) (hd:t.chans[j]?=some d) (h1:d.state∈l) (h2:d.conn=c.conn) (h3:t.conns=s.conns∧t.clients=s.clients∧t.time=s.time) (ho:Qax s c.conn=0):Ja t i l=0:=by
 subst hi;have hl:j<t.chans.length:=(Bm.1 hd).1;unfold Ja;rw [if_neg (by simp [ht]),if_neg (by omega),Yo hd,if_pos h1,h2]
 unfold Qax Yd ZO Qiy at *;rw [h3.1,h3.2.1,h3.2.2];exact ho
theorem Qg3 {j:Nat} {c d:Ch} (hc:s.chans[j]?=some c):(s.chans.set j d)[j]?=some d:=Dy (Bm.1 hc).1
theorem QjK (h:YT s p n=0):QA p=0∧Ja s p.dst [3]=0∧(s.got.length<50∧s.acks.length<50)∧n≤150∧(Qx s p.dst).recv<1000000000000∧QcA s (Qx s p.dst) p=false∧(Qx s p.dst).ochan=p.src∧s.height<p.tmo:=by
 unfold YT at h
 split at h
 ·rename_i h1;exact absurd h h1
 rename_i h1
 split at h
 ·rename_i h2;exact absurd h h2
 rename_i h2
 split at h
 ·cases h
 rename_i h3
 split at h
 ·cases h
 rename_i h4
 split at h
 ·cases h
 rename_i h5
 split at h
 ·cases h
 rename_i h6;exact ⟨by simpa using h1,by simpa using h2,by omega,by omega,by omega,by simpa using h5,by simpa using h3,by omega⟩
theorem QnN (h:YT s p n=0):QcA s (Qx s p.dst) p=false:=(QjK h).2.2.2.2.2.1
theorem QjP (h:Jg s p=0):QA p=0∧Ja s p.src [3,4]=0∧(Qx s p.src).ochan=p.dst∧∃ m,ZM s.sent p.src p.seq=some m∧m.dig=Jd p:=by
 unfold Jg at h
 split at h
 ·rename_i h1;exact absurd h h1
 rename_i h1
 split at h
 ·rename_i h2;exact absurd h h2
 rename_i h2
 split at h
 ·cases h
 rename_i h3
 cases hm:ZM s.sent p.src p.seq with
 | none=>rw [hm] at h;cases h
 | some m =>
  rw [hm] at h;simp only at h
  split at h
  ·cases h
  rename_i h4;exact ⟨by simpa using h1,by simpa using h2,by simpa using h3,m,rfl,by simpa using h4⟩
theorem QpG {ack:Bg} (hr:YT s p ack.length=0) (hf:s.fits):Qd (QcE s p ack)=0∧(QcE s p ack).fits∧∀ n,YT (QcE s p ack) p n=12:=by
 obtain ⟨S,T,hm,-,aB,-,L,hht⟩:=QjK hr;have E:=YY S;obtain ⟨j,k,m,c,d,f,z,hj,D,hck,hd,hdm,hff,hfo,aD,hwf,-⟩:=YZ T;obtain ⟨hw,-,O,M⟩:=Yn T;rw [D] at aB L O M;have I:=Jw aD;have b:=QaK hw;have hlg:=QfS s.got ⟨p.dst,p.seq,Jd p⟩ (Y3 b.2.1).2;have hla:=QfS s.acks ⟨p.dst,p.seq,sha ack⟩ (Y3 b.2.2.1).2;have C:QP (QX s.acks ⟨p.dst,p.seq,sha ack⟩)=0∧(QX s.acks ⟨p.dst,p.seq,sha ack⟩).length≤50:=⟨Qdi b.2.2.1 (Qeu E.2.1 E.2.2.1 (QQ _)),by omega⟩
 have hS:QP s.sent=0∧s.sent.length≤50:=⟨b.1,b.2.2.2.2.1⟩
 cases ho:c.ordered with
 | true =>
  have e:QcE s p ack={ s with chans:=s.chans.set j c.recv1,sent:=s.sent,got:=s.got,acks:=QX s.acks ⟨p.dst,p.seq,sha ack⟩ }:=by
   unfold QcE QbS;rw [D,if_pos ho,z];rfl
  have aA:Q0 c.recv1=0:=Yz I.1 I.2.1 I.2.2.1 (by simp only [Ch.recv1];omega)
  obtain ⟨g1,g2⟩:=QfM (j:=j) hw aA;have A:=Qcu hw g1 g2 hS ⟨b.2.1,b.2.2.2.2.2.1⟩ C;refine ⟨by rw [e];exact A,by rw [e];exact QeK hf g1 hS ⟨b.2.1,b.2.2.2.2.2.1⟩ C,fun n=>?_⟩
  rw [e];have Y:=Qg3 (d:=c.recv1) hj
  have q:=Qd7 (t:={ s with chans:=s.chans.set j c.recv1,sent:=s.sent,got:=s.got,acks:=QX s.acks ⟨p.dst,p.seq,sha ack⟩ }) (l:=[3]) z A Y O rfl ⟨rfl,rfl,rfl⟩ M
  have G:Qx { s with chans:=s.chans.set j c.recv1,sent:=s.sent,got:=s.got,acks:=QX s.acks ⟨p.dst,p.seq,sha ack⟩ } p.dst=c.recv1:=by rw [z];exact Yo Y
  have aC:p.seq=c.recv:=by
   have:=QnN hr;rw [D] at this;unfold QcA at this;rw [if_pos ho] at this;simpa using this
  unfold YT;rw [if_neg (by simp [S]),if_neg (by simp [q]),G,if_neg (by simp [Ch.recv1,L]),if_neg (by simp only;omega),if_pos]
  unfold QcA;rw [if_pos (by simp [Ch.recv1,ho])]
  simp [Ch.recv1,aC];omega
 | false =>
  have e:QcE s p ack={ s with chans:=s.chans,sent:=s.sent,got:=QX s.got ⟨p.dst,p.seq,Jd p⟩,acks:=QX s.acks ⟨p.dst,p.seq,sha ack⟩ }:=by
   unfold QcE;rw [D,if_neg (by simp [ho])]
  have hG:QP (QX s.got ⟨p.dst,p.seq,Jd p⟩)=0∧(QX s.got ⟨p.dst,p.seq,Jd p⟩).length≤50:=⟨Qdi b.2.1 (Qeu E.2.1 E.2.2.1 (QQ _)),by omega⟩
  have A:=Qcu hw b.2.2.2.1 (QD hw).chans hS hG C;refine ⟨by rw [e];exact A,by rw [e];exact QeK hf b.2.2.2.1 hS hG C,fun n=>?_⟩
  rw [e]
  have q:=Qd7 (t:={ s with chans:=s.chans,sent:=s.sent,got:=QX s.got ⟨p.dst,p.seq,Jd p⟩,acks:=QX s.acks ⟨p.dst,p.seq,sha ack⟩ }) (l:=[3]) z A hj O rfl ⟨rfl,rfl,rfl⟩ M
  have G:Qx { s with chans:=s.chans,sent:=s.sent,got:=QX s.got ⟨p.dst,p.seq,Jd p⟩,acks:=QX s.acks ⟨p.dst,p.seq,sha ack⟩ } p.dst=c:=by rw [z];exact Yo hj
  unfold YT;rw [if_neg (by simp [S]),if_neg (by simp [q]),G,if_neg (by simp [L]),if_neg (by simp only;omega),if_pos]
  unfold QcA;rw [if_neg (by simp [ho])]
  have:=QqP s.got ⟨p.dst,p.seq,Jd p⟩;simp only at this;simp [this]
theorem Qhr {c':Ch} (hr:Jg s p=0) (hf:s.fits) (h1:(Qx s p.src).ordered=true→Q0 c'=0∧c'.conn=(Qx s p.src).conn∧c'.ochan=(Qx s p.src).ochan∧c'.state∈([3,4]:List Int)):Qd (JA s p c')=0∧(JA s p c').fits∧Jg (JA s p c') p=6:=by
 obtain ⟨I,A,D,mk,hmk,-⟩:=QjP hr;have hpo:=YY I;obtain ⟨j,k,m,c,d,f,z,hj,q,hck,hd,hdm,hff,hfo,hwc,hwf,-⟩:=YZ A;obtain ⟨hw,-,G,E⟩:=Yn A;rw [q] at D G E h1;have b:=QaK hw;have hlw:=Qk1 s.sent p.src p.seq;have hS:QP (QY s.sent p.src p.seq)=0∧(QY s.sent p.src p.seq).length≤50:=⟨Qil b.1,by omega⟩
 have hG:QP s.got=0∧s.got.length≤50:=⟨b.2.1,b.2.2.2.2.2.1⟩;have hK:QP s.acks=0∧s.acks.length≤50:=⟨b.2.2.1,b.2.2.2.2.2.2⟩
 have fin:∀ (l:List Ch) (x:Ch),JA s p c'={ s with chans:=l,sent:=QY s.sent p.src p.seq,got:=s.got,acks:=s.acks }→l.length≤8→(∀ c∈l,Q0 c=0)→l[j]?=some x→x.state∈([3,4]:List Int)→x.conn=c.conn→x.ochan=c.ochan→Qd (JA s p c')=0∧(JA s p c').fits∧Jg (JA s p c') p=6:=by
  intro l x e g1 g2 g3 g4 g5 g6;have L:=Qcu hw g1 g2 hS hG hK;refine ⟨by rw [e];exact L,by rw [e];exact QeK hf g1 hS hG hK,?_⟩
  rw [e]
  have C:=Qd7 (t:={ s with chans:=l,sent:=QY s.sent p.src p.seq,got:=s.got,acks:=s.acks }) (l:=[3,4]) z L g3 g4 g5 ⟨rfl,rfl,rfl⟩ E
  have M:Qx { s with chans:=l,sent:=QY s.sent p.src p.seq,got:=s.got,acks:=s.acks } p.src=x:=by rw [z];exact Yo g3
  unfold Jg;rw [if_neg (by simp [I]),if_neg (by simp [C]),M,if_neg (by simp [g6,D]),Qk0]
 cases ho:c.ordered with
 | true =>
  obtain ⟨q1,q2,q3,q4⟩:=h1 ho;obtain ⟨g1,g2⟩:=QfM (j:=j) hw q1;refine fin (s.chans.set j c') c' ?_ g1 g2 (Qg3 hj) q4 q2 q3;unfold JA QbS;rw [q,if_pos ho,z];rfl
 | false =>
  refine fin s.chans c ?_ b.2.2.2.1 (QD hw).chans hj G rfl rfl;unfold JA;rw [q,if_neg (by simp [ho])]
theorem Qng {c:Ch} {z:Int} (h:QdL c p n z=0):c.ordered=true→c.ack<1000000000000:=by
 intro ho;unfold QdL at h
 split at h
 ·cases h
 split at h
 ·cases h
 split at h
 ·cases h
 rename_i h3;have:¬ (1000000000000≤c.ack):=fun h=>h3 ⟨ho,h⟩
 omega
theorem QnF {z:Int} (h:Zq s p n z=0):Jg s p=0∧QdL (Qx s p.src) p n z=0:=by
 unfold Zq at h
 split at h
 ·rename_i h1;exact absurd h h1
 ·rename_i h1;exact ⟨by simpa using h1,h⟩
theorem Qnu {next z:Int} (h:ZC s p next ch z=0):Jg s p=0:=by
 unfold ZC at h
 split at h
 ·rename_i h1;exact absurd h h1
 ·rename_i h1;simpa using h1
theorem QnS {z:Int} (h:Qay s p n z=0):YT s p n=0:=by
 unfold Qay at h
 split at h
 ·rename_i h1;exact absurd h h1
 ·rename_i h1;simpa using h1
theorem QjQ (h:Jg s p=0):Q0 (Qx s p.src)=0∧(Qx s p.src).state∈([3,4]:List Int):=by
 obtain ⟨-,b,-⟩:=QjP h;obtain ⟨j,k,m,c,d,f,hij,hj,e,-,-,-,-,-,z,-⟩:=YZ b;obtain ⟨-,-,q,-⟩:=Yn b;exact ⟨by rw [e];exact z,q⟩
theorem QiX {z:Int} (h:Zq s p n z=0) (hf:s.fits):Qd (JA s p (Qx s p.src).ack1)=0∧(JA s p (Qx s p.src).ack1).fits∧Jg (JA s p (Qx s p.src).ack1) p=6:=by
 obtain ⟨h1,h2⟩:=QnF h;obtain ⟨hw,d⟩:=QjQ h1;have b:=Jw hw;exact Qhr h1 hf fun ho=>⟨Yz b.1 b.2.1 b.2.2.1 (by have:=Qng h2 ho;simp only [Ch.ack1];omega),rfl,rfl,d⟩
theorem Qn3 {next z:Int} (h:ZC s p next ch z=0) (hf:s.fits):Qd (JA s p (Qx s p.src).shut)=0∧(JA s p (Qx s p.src).shut).fits∧Jg (JA s p (Qx s p.src).shut) p=6:=by
 have h1:=Qnu h;obtain ⟨hw,hst⟩:=QjQ h1;have b:=Jw hw;exact Qhr h1 hf fun ho=>⟨Yz (by simp [Ch.shut]) b.2.1 b.2.2.1 b.2.2.2,rfl,rfl,by simp [Ch.shut]⟩
theorem Qud {b send:Int} (h:QiK s p b send=0):QA p=0∧s.sent.length<50∧send<1000000000000:=by
 unfold QiK at h
 split at h
 ·rename_i h1;exact absurd h h1
 rename_i h1
 split at h
 ·cases h
 split at h
 ·cases h
 rename_i h3;exact ⟨by simpa using h1,by omega,by omega⟩
theorem QsS {i:Int} {d:Bg} {tmo:Int} (h:YN s i d tmo=0):Ja s i [3]=0∧QiK s (Jv s i d tmo) (QeT (Qbk s i)) (Qx s i).send=0:=by
 unfold YN at h
 split at h
 ·rename_i h1;exact absurd h h1
 ·rename_i h1;exact ⟨by simpa using h1,h⟩
theorem QsW {i:Int} {d:Bg} {tmo:Int} (h:YN s i d tmo=0) (hf:s.fits):∃ (j:Nat) (c:Ch),i=(j:Int)∧s.chans[j]?=some c∧Qx s i=c∧(0≤c.send∧c.send<1000000000000)∧(Qc9 s (Jv s i d tmo)).fits∧Qd (Qc9 s (Jv s i d tmo))=0∧(Qc9 s (Jv s i d tmo)).chans[j]?=some c.sent1∧s.sent.length≤(Qc9 s (Jv s i d tmo)).sent.length:=by
 obtain ⟨A,ho⟩:=QsS h;obtain ⟨O,hsl,E⟩:=Qud ho;obtain ⟨j,k,m,c,cn,f,C,hj,q,-,-,-,-,-,M,-⟩:=YZ A;obtain ⟨hw,-⟩:=Yn A;have D:=YY O;rw [q] at E;have z:=Jw M;have b:=QaK hw;have I:=QfS s.sent ⟨i,c.send,Jd (Jv s i d tmo)⟩ (Y3 b.1).2
 have e:Qc9 s (Jv s i d tmo)={ s with chans:=s.chans.set j c.sent1,sent:=QX s.sent ⟨i,c.send,Jd (Jv s i d tmo)⟩,got:=s.got,acks:=s.acks }:=by
  have e1:(Jv s i d tmo).src=i:=rfl;have e2:(Jv s i d tmo).seq=c.send:=by show (Qx s i).send=_;rw [q]
  unfold Qc9 QbS;rw [e1,e2,q,C];rfl
 have G:Q0 c.sent1=0:=Yz z.1 z.2.1 z.2.2.1 (by simp only [Ch.sent1];omega)
 obtain ⟨g1,g2⟩:=QfM (j:=j) hw G;have L:(Jv s i d tmo).seq=c.send:=by show (Qx s i).send=_;rw [q]
 have hS:QP (QX s.sent ⟨i,c.send,Jd (Jv s i d tmo)⟩)=0∧(QX s.sent ⟨i,c.send,Jd (Jv s i d tmo)⟩).length≤50:=⟨Qdi b.1 (Qeu D.1 (by have:=D.2.2.1;rw [L] at this;exact this) (QQ _)),by omega⟩
 refine ⟨j,c,C,hj,q,⟨by omega,E⟩,?_,?_,?_,?_⟩
 ·rw [e];exact QeK hf g1 hS ⟨b.2.1,b.2.2.2.2.2.1⟩ ⟨b.2.2.1,b.2.2.2.2.2.2⟩
 ·rw [e];exact Qcu hw g1 g2 hS ⟨b.2.1,b.2.2.2.2.2.1⟩ ⟨b.2.2.1,b.2.2.2.2.2.2⟩
 ·rw [e];exact Qg3 hj
 ·rw [e];exact I.1
theorem Qdz (h:Qd s=0) (hc:c∈s.clients):Qz c=0:=by
 obtain ⟨-,-,-,h4⟩:=QV h;have:=(JD _).1 h4;simp only [Bo,BG,BJ,Cu,CO] at this;exact (Yu _ _).1 this.1 c hc
theorem Qd1 {l:List Cl} (h:Qd s=0) (hl:l.length≤4) (hc:∀ c∈l,Qz c=0):Qd { s with clients:=l }=0:=by
 obtain ⟨h1,h2,h3,h4⟩:=QV h;have h5:=Dl (show decide _=false from h3);unfold Qd;rw [if_neg (by simp [h1]),if_neg (by simp [h2.1,h2.2]),if_neg (by simp [Qav];omega)]
 have h':=(JD _).1 h4;simp only [Bo,BG,BJ,Cu,CO] at h';refine (JD _).2 ?_;simp only [Bo,BG,BJ,Cu,CO];exact ⟨(Yu _ _).2 hc,h'.2⟩
theorem Qk3 (h:Qz c=0):c.fits:=by
 obtain ⟨h1,-,h3,h4,-⟩:=(Yc c).1 h;simp [Y7] at h1;refine ⟨by omega,by omega,fun k hk=>?_⟩
 have:=(Qet k).1 (h4 k hk);exact ⟨by omega,by omega⟩
theorem Qcs {m:Mk} (h:JT m=0):m.fits:=by
 unfold JT at h
 split at h
 ·cases h
 split at h
 ·cases h
 ·rename_i h1
  simp at h1;exact (show m.dig.length≤_ by omega)
theorem QqA {t:St} (h:Qd t=0) (hp:∀ p∈t.purses,p.amount<18446744073709551616):t.fits:=by
 obtain ⟨h1,-,hm,hd⟩:=QV h;have hr:=QD h;obtain ⟨f1,f2,f3,f4,f5,f6,f7,-⟩:=QF h;have b:t.purses.length≤60:=by simp [Qav] at hm;omega
 have d:QaG t.purses=0:=(JD _).1 hd _ (by simp)
 have hU:=((Qep hp).1 (by unfold QhW;simp [b,d])).2
 simp [Y7] at h1;exact ⟨by omega,⟨by omega,fun c hc=>Qk3 (Qdz h hc)⟩,by omega,by omega,⟨by omega,fun m hm=>Qcs (hr.sent.1 m hm)⟩,⟨by omega,fun m hm=>Qcs (hr.got.1 m hm)⟩,⟨by omega,fun m hm=>Qcs (hr.acks.1 m hm)⟩,by omega,QhX hU⟩
def Za (k:Int) (s t:St):Prop :=
 if k≤3 then ({ t with clients:=s.clients }:St)=s
 else if k≤7 then ({ t with conns:=s.conns }:St)=s
 else if k≤13 then ({ t with chans:=s.chans }:St)=s
 else if k=18 then ({ t with purses:=s.purses }:St)=s
 else ({ t with chans:=s.chans,sent:=s.sent,got:=s.got,acks:=s.acks,purses:=s.purses }:St)=s
theorem Za.same {k:Int} {t:St} (h:Za k s t):t.name=s.name∧t.height=s.height∧t.time=s.time:=by
 unfold Za at h
 split at h
 ·exact ⟨(Bl St.name h :),(Bl St.height h :),(Bl St.time h :)⟩
 split at h
 ·exact ⟨(Bl St.name h :),(Bl St.height h :),(Bl St.time h :)⟩
 split at h
 ·exact ⟨(Bl St.name h :),(Bl St.height h :),(Bl St.time h :)⟩
 split at h
 ·exact ⟨(Bl St.name h :),(Bl St.height h :),(Bl St.time h :)⟩
 ·exact ⟨(Bl St.name h :),(Bl St.height h :),(Bl St.time h :)⟩
theorem Qr1 {l:List Pu} (hr:Q1 l) (hl:l.length≤60) {ch:Nat} {t:Tr} (ht:t.amount<18446744073709551616) (he:Qc1 l ch t=0):Q1 (Qcc l ch t)∧(Qcc l ch t).length≤60:=by
 unfold Qc1 at he;unfold Qcc
 split at he
 ·rename_i hc
  rw [if_pos hc];have:=QgD hr he;exact ⟨this.right,Bh this.len hl⟩
 ·rename_i hc
  rw [if_neg hc];exact ⟨(Qbp hr hl ht he).right,(Qbp hr hl ht he).len⟩
theorem QtH {l:List Pu} (hr:Q1 l) (hl:l.length≤60) {ch:Nat} {t:Tr} (ht:t.amount<18446744073709551616) (he:QdG l ch t=0):Q1 (QeC l ch t)∧(QeC l ch t).length≤60:=by
 unfold QdG at he;unfold QeC
 split at he
 ·rename_i hc
  rw [if_pos hc];exact ⟨(QeY hr hl ht he).1.right,(QeY hr hl ht he).1.len⟩
 ·rename_i hc
  rw [if_neg hc];exact ⟨(Qbp hr hl ht he).right,(Qbp hr hl ht he).len⟩
theorem QgA (hf:s.fits):∀ p∈s.purses,p.amount<18446744073709551616:=fun p hp=>(hf.2.2.2.2.2.2.2.2 p hp).2.2
theorem QgQ {l:List Pu} (h:Q1 l):∀ p∈l,p.amount<18446744073709551616:=fun p hp=>(h.ok p hp).2.2.2
theorem Qgf (hw:Qd s=0) (hf:s.fits) (h:ZI s p=0):Qd (Ya s p)=0∧(∀ q∈(Ya s p).purses,q.amount<18446744073709551616)∧({ Ya s p with purses:=s.purses }:St)=s:=by
 unfold ZI at h;unfold Ya
 by_cases h1:Jj p.data≠0
 ·rw [if_pos h1]
  exact ⟨hw,QgA hf,rfl⟩
 ·rw [if_neg h1] at h ⊢
  rw [if_pos h];have hU:=JG hw hf;have:=QtH hU.2 hU.1 (Zs p.data).1 h;exact ⟨QaH hw this.1 this.2,QgQ this.1,rfl⟩
theorem Qnn (s:St) (p:Pk) (c:Ch):({ JA s p c with chans:=s.chans,sent:=s.sent }:St)=s:=by
 unfold JA QbS
 by_cases h:(Qx s p.src).ordered=true
 ·rw [if_pos h]
 ·rw [if_neg h]
theorem QpF (s:St) (p:Pk) (a:Bg):({ QcE s p a with chans:=s.chans,got:=s.got,acks:=s.acks }:St)=s:=by
 unfold QcE QbS
 by_cases h:(Qx s p.dst).ordered=true
 ·rw [if_pos h]
 ·rw [if_neg h]
theorem QhR {k:Int} {t:St} (hk:13<k∧k≠18) (h:t.name=s.name∧t.height=s.height∧t.time=s.time∧t.clients=s.clients∧t.conns=s.conns):Za k s t:=by
 unfold Za;rw [if_neg (by omega),if_neg (by omega),if_neg (by omega),if_neg hk.2]
 obtain ⟨a,b,c,d,e,f,g,i,j,l⟩:=t;obtain ⟨h1,h2,h3,h4,h5⟩:=h;simp only at h1 h2 h3 h4 h5;subst h1 h2 h3 h4 h5;rfl
theorem QrI (s:St) (p:Pk) (c:Ch):(JA s p c).name=s.name∧(JA s p c).height=s.height∧(JA s p c).time=s.time∧(JA s p c).clients=s.clients∧(JA s p c).conns=s.conns :=
 have h:=Qnn s p c
 ⟨(Bl St.name h :),(Bl St.height h :),(Bl St.time h :),(Bl St.clients h :),(Bl St.conns h :)⟩
theorem Qwa (s:St) (p:Pk) (a:Bg):(QcE s p a).name=s.name∧(QcE s p a).height=s.height∧(QcE s p a).time=s.time∧(QcE s p a).clients=s.clients∧(QcE s p a).conns=s.conns :=
 have h:=QpF s p a
 ⟨(Bl St.name h :),(Bl St.height h :),(Bl St.time h :),(Bl St.clients h :),(Bl St.conns h :)⟩
theorem QoS {t:St} (h0:({ Ya t p with purses:=t.purses }:St)=t) (h:t.name=s.name∧t.height=s.height∧t.time=s.time∧t.clients=s.clients∧t.conns=s.conns):(Ya t p).name=s.name∧(Ya t p).height=s.height∧(Ya t p).time=s.time∧(Ya t p).clients=s.clients∧(Ya t p).conns=s.conns :=
 ⟨(Bl St.name h0 :).trans h.1,(Bl St.height h0 :).trans h.2.1,(Bl St.time h0 :).trans h.2.2.1,(Bl St.clients h0 :).trans h.2.2.2.1,(Bl St.conns h0 :).trans h.2.2.2.2⟩
theorem QmZ (p:Pk) (hw:Qd s=0) (hf:s.fits):Qd (Qae s p)=0∧(Qae s p).fits∧(Qae s p).name=s.name∧(Qae s p).height=s.height∧(Qae s p).time=s.time∧(Qae s p).clients=s.clients∧(Qae s p).conns=s.conns:=by
 unfold Qae
 by_cases h:QcS s p=true
 ·rw [if_pos h]
  have hU:=JG hw hf;have hz:Qbx s.purses p.dst p.src (QS p.data)=0:=by unfold QcS at h;simp at h;exact h.2.2
  have:=Qlm hU.2 hU.1 (Zs p.data).1 hz;exact ⟨QaH hw this.1 this.2,Qc8 hf this.1 this.2,rfl,rfl,rfl,rfl,rfl⟩
 ·rw [if_neg h]
  exact ⟨hw,hf,rfl,rfl,rfl,rfl,rfl⟩
theorem Qq2 (s:St) (p:Pk):(Qk9 s p).length=1:=by unfold Qk9;split <;> rfl
theorem Qqe (s:St) (m:Ms) (z:Int) (hf:s.fits) (L:m.fits) (hw:Qd s=0) (h:(QI s m z).err=0):Qd (QI s m z).st=0∧(∀ p∈(QI s m z).st.purses,p.amount<18446744073709551616)∧Za m.kind s (QI s m z).st:=by
 have hU:=JG hw hf;have hA:=QgA hf
 by_cases h1:m.kind=1
 ·rw [show QI s m z=Qsg s m from if_pos h1] at h ⊢
  have he:QkE s m=0:=h
  have hs:(Qsg s m).st={ s with clients:=s.clients ++ [YO m.chain m.trust m.known] }:=if_pos he
  rw [hs];unfold QkE at he
  split at he
  ·cases he
  ·refine ⟨Qd1 hw (by simp;omega) fun c hc=>?_,hA,by unfold Za;rw [if_pos (by omega)]⟩
   rcases Bz.1 hc with hc | hc
   ·exact Qdz hw hc
   ·obtain rfl:=BO.1 hc;exact he
 by_cases h2:m.kind=2∨m.kind=3
 ·rw [show QI s m z=YR (QmD s m) (Qgl s m) from (if_neg h1).trans (if_pos h2)] at h ⊢
  have he:Qgl s m=0:=h;rw [show QmD s m=_ from if_pos he];unfold Qgl at he
  split at he
  ·cases he
  ·rename_i hr
   obtain ⟨k,hk⟩:∃ k:Nat,m.client=(k:Int):=⟨m.client.toNat,by omega⟩
   obtain ⟨x,hx⟩:∃ x,s.clients[k]?=some x:=⟨_,Bk (by omega)⟩
   rw [hk,QaM hx] at he ⊢;refine ⟨Qd1 hw (by have:=(QV hw).2.2.1;simp [Qav] at this;simp;omega) fun c hc=>?_,hA,by unfold Za;rw [if_pos (by omega)]⟩
   rcases Dj hc with hc | rfl
   ·exact Qdz hw hc
   ·unfold QbW
    unfold Qfi at he
    split at he
    ·rename_i h3
     rw [if_pos h3];unfold Qb1;rw [if_pos he];have:=Qdz hw (Bn hx);exact this
    ·rename_i h3
     rw [if_neg h3];exact (Qks he).2.2
 by_cases h4:m.kind=4
 ·unfold QI at h ⊢
  rw [if_neg h1,if_neg h2,if_pos h4] at h ⊢;have he:Qat s m.client m.other=0:=h;have hF:=Qkw (i:=0) hf he;have hp:=Bl St.purses hF.rest;exact ⟨hF.right,(hp:_=s.purses) ▸ hA,by unfold Za;rw [if_neg (by omega),if_pos (by omega)];exact hF.rest⟩
 by_cases h5:m.kind=5
 ·unfold QI at h ⊢
  rw [if_neg h1,if_neg h2,if_neg h4,if_pos h5] at h ⊢;have he:Qco s m.client m.other m.oend z=0:=h;have hF:=QlD (i:=0) hf he;have hp:=Bl St.purses hF.rest;exact ⟨hF.right,(hp:_=s.purses) ▸ hA,by unfold Za;rw [if_neg (by omega),if_pos (by omega)];exact hF.rest⟩
 by_cases h6:m.kind=6
 ·unfold QI at h ⊢
  rw [if_neg h1,if_neg h2,if_neg h4,if_neg h5,if_pos h6] at h ⊢;have he:Qiu s m.fin m.oend z=0:=h;have hF:=QlC hf he;have hp:=Bl St.purses hF.rest;exact ⟨hF.right,(hp:_=s.purses) ▸ hA,by unfold Za;rw [if_neg (by omega),if_pos (by omega)];exact hF.rest⟩
 by_cases h7:m.kind=7
 ·unfold QI at h ⊢
  rw [if_neg h1,if_neg h2,if_neg h4,if_neg h5,if_neg h6,if_pos h7] at h ⊢;have he:QcT s m.fin z=0:=h;have hF:=Qku hf he;have hp:=Bl St.purses hF.rest;exact ⟨hF.right,(hp:_=s.purses) ▸ hA,by unfold Za;rw [if_neg (by omega),if_pos (by omega)];exact hF.rest⟩
 by_cases h8:m.kind=8
 ·unfold QI at h ⊢
  rw [if_neg h1,if_neg h2,if_neg h4,if_neg h5,if_neg h6,if_neg h7,if_pos h8] at h ⊢;have he:Qap s m.fin=0:=h;have hF:=QiD (j:=0) (o:=m.ordered) hf he;have hp:=Bl St.purses hF.rest;exact ⟨hF.right,(hp:_=s.purses) ▸ hA,by unfold Za;rw [if_neg (by omega),if_neg (by omega),if_pos (by omega)];exact hF.rest⟩
 by_cases h9:m.kind=9
 ·unfold QI at h ⊢
  rw [if_neg h1,if_neg h2,if_neg h4,if_neg h5,if_neg h6,if_neg h7,if_neg h8,if_pos h9] at h ⊢;have he:Qaf s m.fin m.oend z=0:=h;have hF:=Qkv (j:=0) (o:=m.ordered) hf he;have hp:=Bl St.purses hF.rest;exact ⟨hF.right,(hp:_=s.purses) ▸ hA,by unfold Za;rw [if_neg (by omega),if_neg (by omega),if_pos (by omega)];exact hF.rest⟩
 by_cases b:m.kind=10
 ·unfold QI at h ⊢
  rw [if_neg h1,if_neg h2,if_neg h4,if_neg h5,if_neg h6,if_neg h7,if_neg h8,if_neg h9,if_pos b] at h ⊢;have he:QdI s m.fin m.oend z=0:=h;have hF:=Qkt hf he;have hp:=Bl St.purses hF.rest;exact ⟨hF.right,(hp:_=s.purses) ▸ hA,by unfold Za;rw [if_neg (by omega),if_neg (by omega),if_pos (by omega)];exact hF.rest⟩
 by_cases d:m.kind=11
 ·unfold QI at h ⊢
  rw [if_neg h1,if_neg h2,if_neg h4,if_neg h5,if_neg h6,if_neg h7,if_neg h8,if_neg h9,if_neg b,if_pos d] at h ⊢;have he:Zk s m.fin 2 z=0:=h;have hF:=QdO (te:=3) hf (by decide) (by decide) (by decide) he
  have hp:=Bl St.purses hF.rest;exact ⟨hF.right,(hp:_=s.purses) ▸ hA,by unfold Za;rw [if_neg (by omega),if_neg (by omega),if_pos (by omega)];exact hF.rest⟩
 by_cases e:m.kind=12
 ·unfold QI at h ⊢
  rw [if_neg h1,if_neg h2,if_neg h4,if_neg h5,if_neg h6,if_neg h7,if_neg h8,if_neg h9,if_neg b,if_neg d,if_pos e] at h ⊢;have he:Jt s m.fin 3=0:=h;have hF:=QiE hf he;have hp:=Bl St.purses hF.rest;exact ⟨hF.right,(hp:_=s.purses) ▸ hA,by unfold Za;rw [if_neg (by omega),if_neg (by omega),if_pos (by omega)];exact hF.rest⟩
 by_cases q:m.kind=13
 ·unfold QI at h ⊢
  rw [if_neg h1,if_neg h2,if_neg h4,if_neg h5,if_neg h6,if_neg h7,if_neg h8,if_neg h9,if_neg b,if_neg d,if_neg e,if_pos q] at h ⊢;have he:Zk s m.fin 3 z=0:=h;have hF:=QdO (te:=4) hf (by decide) (by decide) (by decide) he
  have hp:=Bl St.purses hF.rest;exact ⟨hF.right,(hp:_=s.purses) ▸ hA,by unfold Za;rw [if_neg (by omega),if_neg (by omega),if_pos (by omega)];exact hF.rest⟩
 by_cases A:m.kind=14
 ·unfold QI at h ⊢
  rw [if_neg h1,if_neg h2,if_neg h4,if_neg h5,if_neg h6,if_neg h7,if_neg h8,if_neg h9,if_neg b,if_neg d,if_neg e,if_neg q,if_pos A] at h ⊢;have he:QfN s m=0:=h;have hs:QqH s m=_:=if_pos he;rw [show (⟨QqH s m,QfN s m,0,Quo s m⟩:Out).st=QqH s m from rfl,hs];unfold QfN at he
  split at he
  ·rename_i hh;exact absurd he hh
  split at he
  ·rename_i hh;exact absurd he hh
  rename_i hh;have M:YN s m.fin (QG m.tr) m.tmo=0:=by simpa using hh
  obtain ⟨j,c,-,-,-,-,hft,O,-⟩:=QsW M hf;have hL:=Qr1 hU.2 hU.1 L.2.2.2.2.2.1.2.1 he;exact ⟨QaH O hL.1 hL.2,QgQ hL.1,QhR (by omega) ⟨rfl,rfl,rfl,rfl,rfl⟩⟩
 by_cases C:m.kind=15
 ·unfold QI at h ⊢
  rw [if_neg h1,if_neg h2,if_neg h4,if_neg h5,if_neg h6,if_neg h7,if_neg h8,if_neg h9,if_neg b,if_neg d,if_neg e,if_neg q,if_neg A,if_pos C] at h ⊢;have he:Qay (Qae s m.pk) m.pk 1 z=0:=h;obtain ⟨q1,q2,q3⟩:=QmZ m.pk hw hf;have I:Qay (Qae s m.pk) m.pk (Qk9 s m.pk).length z=0:=by rw [Qq2];exact he
  rw [show (YR (Qug s m.pk z) (Qqs s m.pk z)).st=QcE (Qae s m.pk) m.pk (Qk9 s m.pk) from if_pos I];obtain ⟨g1,g2,-⟩:=QpG (QnS I) q2;have g5:=Qwa (Qae s m.pk) m.pk (Qk9 s m.pk);exact ⟨g1,QgA g2,QhR (by omega) ⟨g5.1.trans q3.1,g5.2.1.trans q3.2.1,g5.2.2.1.trans q3.2.2.1,g5.2.2.2.1.trans q3.2.2.2.1,g5.2.2.2.2.trans q3.2.2.2.2⟩⟩
 by_cases D:m.kind=16
 ·unfold QI at h ⊢
  rw [if_neg h1,if_neg h2,if_neg h4,if_neg h5,if_neg h6,if_neg h7,if_neg h8,if_neg h9,if_neg b,if_neg d,if_neg e,if_neg q,if_neg A,if_neg C,if_pos D] at h ⊢;have he:Qq5 s m z=0:=h
  show Qd (QmS s m z)=0∧(∀ p∈(QmS s m z).purses,p.amount<18446744073709551616)∧Za m.kind s (QmS s m z)
  unfold QmS;unfold Qq5 at he
  split at he
  ·rename_i hc
   rw [if_pos hc,show Zr s m.pk m.ack.length z=JA s m.pk (Qx s m.pk.src).ack1 from if_pos he];obtain ⟨g1,g2,-⟩:=QiX he hf;exact ⟨g1,QgA g2,QhR (by omega) (QrI _ _ _)⟩
  ·rename_i hc
   rw [if_neg hc]
   have hp:Zq s m.pk m.ack.length z=0:=by
    by_cases hp:Zq s m.pk m.ack.length z=0
    ·exact hp
    ·exact absurd (.inl hp) hc
   rw [show Zr s m.pk m.ack.length z=JA s m.pk (Qx s m.pk.src).ack1 from if_pos hp] at he ⊢;obtain ⟨g1,g2,-⟩:=QiX hp hf;obtain ⟨r1,r2,r3⟩:=Qgf g1 g2 he;exact ⟨r1,r2,QhR (by omega) (QoS r3 (QrI _ _ _))⟩
 by_cases E:m.kind=17
 ·unfold QI at h ⊢
  rw [if_neg h1,if_neg h2,if_neg h4,if_neg h5,if_neg h6,if_neg h7,if_neg h8,if_neg h9,if_neg b,if_neg d,if_neg e,if_neg q,if_neg A,if_neg C,if_neg D,if_pos E] at h ⊢;have he:Qr7 s m z=0:=h
  show Qd (Qnz s m z)=0∧(∀ p∈(Qnz s m z).purses,p.amount<18446744073709551616)∧Za m.kind s (Qnz s m z)
  unfold Qnz;unfold Qr7 at he
  split at he
  ·rename_i hc;exact absurd he hc
  ·rename_i hc
   rw [if_neg hc];have hp:ZC s m.pk m.next m.sh.height z=0:=by simpa using hc
   rw [show ZD s m.pk m.next m.sh.height z=JA s m.pk (Qx s m.pk.src).shut from if_pos hp] at he ⊢;obtain ⟨g1,g2,-⟩:=Qn3 hp hf;obtain ⟨r1,r2,r3⟩:=Qgf g1 g2 he;exact ⟨r1,r2,QhR (by omega) (QoS r3 (QrI _ _ _))⟩
 by_cases G:m.kind=18
 ·unfold QI at h ⊢
  rw [if_neg h1,if_neg h2,if_neg h4,if_neg h5,if_neg h6,if_neg h7,if_neg h8,if_neg h9,if_neg b,if_neg d,if_neg e,if_neg q,if_neg A,if_neg C,if_neg D,if_neg E,if_pos G] at h ⊢;have he:Qbl s m.tr=0:=h;rw [show (Qjq s m).st=_ from if_pos he];unfold Qbl at he
  split at he
  ·rename_i hc;exact absurd he hc
  ·have hM:=Qbp hU.2 hU.1 L.2.2.2.2.2.1.2.1 he
   exact ⟨QaH hw hM.right hM.len,QgQ hM.right,by unfold Za;rw [if_neg (by omega),if_neg (by omega),if_neg (by omega),if_pos G]⟩
 unfold QI at h;rw [if_neg h1,if_neg h2,if_neg h4,if_neg h5,if_neg h6,if_neg h7,if_neg h8,if_neg h9,if_neg b,if_neg d,if_neg e,if_neg q,if_neg A,if_neg C,if_neg D,if_neg E,if_neg G] at h
 cases h
end Go.Proofs.YtnedafiokmjkkaaGreatDoor
