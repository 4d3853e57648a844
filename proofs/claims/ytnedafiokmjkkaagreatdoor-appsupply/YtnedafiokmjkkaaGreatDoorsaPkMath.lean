/- Packets. -/
import Derived.Test.YtnedafiokmjkkaaGreatDoorsaStCopy
import Derived.Test.YtnedafiokmjkkaaGreatDoorsaClShown
namespace Go.Proofs.YtnedafiokmjkkaaGreatDoor
open Go.RowKit
variable {w w':World} {B N g k n:Nat} {v v1 v2 v3 v4 v5 v6 v7:Value} {s:St} {oa:Option Addr} {ch:Int}
structure Sh where
 height:Int
 prf:Prf
 gap:Gp
def Sh.fits (h:Sh):Prop:=h.prf.fits∧h.gap.fits
def ShV (w:World) (N:Nat) (v:Value) (h:Sh):Prop:=∃ x1 x2 x3 k1 v1 t1 k2 v2 t2,v=.agg #[Bb h.height,Bb h.prf.index,Bb h.prf.size,x1,x2,x3,.bool h.gap.hasL,.bool h.gap.hasR,Bb h.gap.left.index,Bb h.gap.left.size,k1,v1,t1,Bb h.gap.right.index,Bb h.gap.right.size,k2,v2,t2] ∧
 Qd7 w N (.agg #[Bb h.prf.index,Bb h.prf.size,x1,x2,x3]) h.prf∧GpV w N (.agg #[.bool h.gap.hasL,.bool h.gap.hasR,Bb h.gap.left.index,Bb h.gap.left.size,k1,v1,t1,Bb h.gap.right.index,Bb h.gap.right.size,k2,v2,t2]) h.gap
theorem ShV.below {h:Sh} (hv:ShV w N v h) (hg:Below N w w'):ShV w' N v h:=by
 obtain ⟨x1,x2,x3,k1,v1,t1,k2,v2,t2,e,hp,hq⟩:=hv;exact ⟨x1,x2,x3,k1,v1,t1,k2,v2,t2,e,hp.below hg,hq.below hg⟩
theorem ShV.mono {h:Sh} (hv:ShV w N v h) (hN:N≤g):ShV w g v h:=by
 obtain ⟨x1,x2,x3,k1,v1,t1,k2,v2,t2,e,hp,hq⟩:=hv;exact ⟨x1,x2,x3,k1,v1,t1,k2,v2,t2,e,hp.mono hN,hq.mono hN⟩
theorem ShV.open {h:Sh} (hv:ShV w N v h):∃ q1 e1 q2 e2 q3 e3 r1 s1 r2 s2 r3 s3 r4 s4 r5 s5 r6 s6,
  v=.agg #[Bb h.height,Bb h.prf.index,Bb h.prf.size,.slice q1 h.prf.key.length e1,.slice q2 h.prf.val.length e2,.slice q3 h.prf.path.length e3,.bool h.gap.hasL,.bool h.gap.hasR,Bb h.gap.left.index,Bb h.gap.left.size,.slice r1 h.gap.left.key.length s1,.slice r2 h.gap.left.val.length s2,.slice r3 h.gap.left.path.length s3,Bb h.gap.right.index,Bb h.gap.right.size,.slice r4 h.gap.right.key.length s4,.slice r5 h.gap.right.val.length s5,.slice r6 h.gap.right.path.length s6] ∧
  Qd7 w N (.agg #[Bb h.prf.index,Bb h.prf.size,.slice q1 h.prf.key.length e1,.slice q2 h.prf.val.length e2,.slice q3 h.prf.path.length e3]) h.prf:=by
 obtain ⟨x1,x2,x3,k1,v1,t1,k2,v2,t2,rfl,hp,hq⟩:=hv;have b:=hp;obtain ⟨a1,a2,a3,ea,b1,b2,b3⟩:=hp;obtain ⟨c1,c2,c3,c4,c5,c6,eb,d1,d2,d3,d4,d5,d6⟩:=hq;simp at ea eb;obtain ⟨rfl,rfl,rfl⟩:=ea;obtain ⟨rfl,rfl,rfl,rfl,rfl,rfl⟩:=eb;obtain ⟨q1,e1,rfl,-⟩:=b1.shape;obtain ⟨q2,e2,rfl,-⟩:=b2.shape;obtain ⟨q3,e3,rfl,-⟩:=b3.shape;obtain ⟨r1,s1,rfl,-⟩:=d1.shape;obtain ⟨r2,s2,rfl,-⟩:=d2.shape;obtain ⟨r3,s3,rfl,-⟩:=d3.shape;obtain ⟨r4,s4,rfl,-⟩:=d4.shape;obtain ⟨r5,s5,rfl,-⟩:=d5.shape;obtain ⟨r6,s6,rfl,-⟩:=d6.shape;exact ⟨_,_,_,_,_,_,_,_,_,_,_,_,_,_,_,_,_,_,rfl,b⟩
def QiH (s:St) (c:Int):Cl:=(s.clients[c.toNat]?).getD Cl.none
def Yd (s:St) (i:Int):Cn:=(s.conns[i.toNat]?).getD ⟨0,0,0,0⟩
theorem QaS {x:Cl} (h:s.clients[k]?=some x):QiH s (k:Int)=x:=by grind [QiH]
theorem Yn {x:Cn} (h:s.conns[k]?=some x):Yd s (k:Int)=x:=by grind [Yd]
def ZS (s:St) (c:Int):Int:=if c<0∨(s.clients.length:Int)≤c then 6 else if YL (QiH s c) s.time=false then 12 else 0
theorem QhK {c:Int} (h:c<0∨(s.clients.length:Int)≤c):ZS s c=6:=if_pos h
theorem Qaq {c:Int} (h:ZS s c=0):0≤c∧c<(s.clients.length:Int):=by grind [ZS]
theorem Qmd {x:Cl} (h:s.clients[k]?=some x):ZS s (k:Int)=if YL x s.time=false then 12 else 0:=by grind [ZS,QaS]
def J0 (s:St) (c:Int):Int:=if Qd s≠0 then Qd s else ZS s c
def Qcc (s:St) (i st:Int):Int:=if Qd s≠0 then Qd s else if i<0∨(s.conns.length:Int)≤i then 6 else if (Yd s i).state≠st then 12 else ZS s (Yd s i).client
def QbS (s:St):Int:=if 8≤s.conns.length then 5 else 0
def QaA (s:St) (c o:Int):Int:=if J0 s c≠0 then J0 s c else if Qs 0 o=false then 3 else QbS s
def Qcu (s:St) (c o q z:Int):Int:=if J0 s c≠0 then J0 s c else if (Qs 0 o && Qs 0 q)=false then 3 else if z≠0 then z else QbS s
def QiA (s:St) (i q z:Int):Int:=if Qcc s i 1≠0 then Qcc s i 1 else if Qs 0 q=false then 3 else z
def QcX (s:St) (i z:Int):Int:=if Qcc s i 2≠0 then Qcc s i 2 else if (Yd s i).oconn<0 then 8 else z
def Qna (s:St) (n:Int) (c:Cn):St:=if n=0 then { s with conns:=s.conns ++ [c] } else St.none
def Qlp (s:St) (n:Int):Int:=if n=0 then (s.conns.length:Int) else 0
def Qmw (s:St) (n i:Int) (c:Cn):St:=if n=0 then { s with conns:=s.conns.set i.toNat c } else St.none
def Ql2 (s:St) (c o:Int):St:=Qna s (QaA s c o) ⟨1,c,o,-1⟩
def Qtr (s:St) (c o q z:Int):St:=Qna s (Qcu s c o q z) ⟨2,c,o,q⟩
def Qrf (s:St) (i q z:Int):St:=Qmw s (QiA s i q z) i ⟨3,(Yd s i).client,(Yd s i).oclient,q⟩
def QlE (s:St) (i z:Int):St:=Qmw s (QcX s i z) i ⟨3,(Yd s i).client,(Yd s i).oclient,(Yd s i).oconn⟩
def JM (s:St) (c:Int) (h:Sh) (key val:Bg) (z:Int):Prop:=QU (QiH s c) s.time h.height (fun r=>h.prf.key=key∧h.prf.val=val∧JZ r h.prf) z
def Qnc (s:St) (c o q:Int) (h:Sh) (z:Int):Prop:=JM s c h (Jt Qa4 [q.toNat]) (QcY ⟨1,o,c,-1⟩) z
def Qkh (s:St) (i q:Int) (h:Sh) (z:Int):Prop:=JM s (Yd s i).client h (Jt Qa4 [q.toNat]) (QcY ⟨2,(Yd s i).oclient,(Yd s i).client,i⟩) z
def QgG (s:St) (i:Int) (h:Sh) (z:Int):Prop:=JM s (Yd s i).client h (Jt Qa4 [(Yd s i).oconn.toNat]) (QcY ⟨3,(Yd s i).oclient,(Yd s i).client,i⟩) z
theorem QX (h:Qd s=0):Zc s.name=true∧(Qs 0 s.height=true∧Qs 0 s.time=true)∧QaC s=false∧Qjo s=0:=by
 unfold Qd at h
 split at h
 ·cases h
 split at h
 ·cases h
 split at h
 ·cases h
 rename_i h1 h2 h3;refine ⟨by simpa using h1,?_,by simpa using h3,h⟩
 cases e1:Qs 0 s.height <;> cases e2:Qs 0 s.time <;> simp_all
theorem QbH (h:Qd s=0):∀ c∈s.clients,Qy c=0:=by
 have h':=(JG _).1 (QX h).2.2.2;simp only [Bo,Cu] at h';exact (Yu _ _).1 h'.1
theorem QE (h:Qd s=0):few s:=by
 have h3:=(QX h).2.2.1;have h4:=Dk h3;exact ⟨by omega,by omega,by omega,by omega,by omega,by omega,by omega,fun c hc=>by have:=((Yc c).1 (QbH h c hc)).2.2.1;omega⟩
theorem Qm6 (h:Qd s=0):0≤s.time∧s.time≤1000000000000:=(Q6 _ _).1 (QX h).2.1.2
theorem Qgv {l:List Cn} (h:Qd s=0) (hl:l.length≤8) (hc:∀ c∈l,Ji c=0):Qd { s with conns:=l }=0:=by
 obtain ⟨h1,h2,h3,h4⟩:=QX h;have h5:=Dk (show decide _=false from h3);unfold Qd;rw [if_neg (by simp [h1]),if_neg (by simp [h2.1,h2.2]),if_neg (by simp [QaC];omega)]
 have h':=(JG _).1 h4;simp only [Bo,BH,BI,Cu,CM] at h';refine (JG _).2 ?_;simp only [Bo,BH,BI,Cu,CM];exact ⟨h'.1,(Yu _ _).2 hc,h'.2.2⟩
def Qp (N base:Nat) (w:World) (v:Value) (t:St):Prop:=QM (fun b=>(b<N∨base≤b)∧b<w.heap.size) w (fun w2=>StV w2 w2.heap.size v t)
theorem Qp.now {base:Nat} {t:St} (h:Qp N base w v t):StV w w.heap.size v t:=QM.now h
theorem Qp.on {base:Nat} {w2:World} {t:St} (h:Qp N base w v t) (hb:Below 0 w w2) (hk:∀ b,b<w.heap.size→b<N∨base≤b→w2.heap[b]?=w.heap[b]?):Qp N base w2 v t :=
 (QM.on h hb (fun b hF=>hk b hF.2 hF.1)).wide (fun _ hF=>⟨hF.1,Bt hF.2 hb.size⟩) (fun _ hF=>hF.2)
theorem Qp.below {base:Nat} {w2:World} {t:St} (h:Qp N base w v t) (hb:Bd w w2):Qp N base w2 v t:=h.on (hb.mono (by omega)) (fun b e _=>hb.block b e)
theorem Qp.lower {base base':Nat} {t:St} (h:Qp N base w v t) (hb:base'≤base):Qp N base' w v t:=QM.wide h (fun _ hF=>⟨hF.1.imp id (by omega),hF.2⟩) (fun _ hF=>hF.2)
theorem Qk4 (hb:Below B w' w) (hg:B≤g) (cs:Array Value):Below B w' (w.setRow g cs):=hb.trans ⟨rfl,rfl,rfl,by simp,fun k hk=>BV w g k cs (by omega)⟩
theorem Qp.row {base:Nat} {t:St} (h:Qp N base w v t) (h1:N≤g) (h2:g<base) (cs:Array Value):Qp N base (w.setRow g cs) v t :=
 h.on (Qk4 (Bi 0 w) (by omega) cs) (fun b _ hlt=>BV w g b cs (by omega))
theorem Qp.setCell {base:Nat} {t:St} (h:Qp N base w v t) {a:Addr} (h1:N≤a.block) (h2:a.block<base) (x:Value):Qp N base (w.setCell a x) v t :=
 h.on ((Bi 0 w).setCell (by omega) x) (fun b _ hlt=>DM _ _ _ _ (by omega))
theorem Qtg (w:World) (N:Nat):StV w N (.agg #[.string ⟨#[]⟩,Bb 0,Bb 0,Bc,Bc,Bc,Bc,Bc,Bc,Bc]) St.none:=⟨_,_,_,_,_,_,_,rfl,Qt.nil _ _ _ _,Qt.nil _ _ _ _,Qt.nil _ _ _ _,Qt.nil _ _ _ _,Qt.nil _ _ _ _,Qt.nil _ _ _ _,Qt.nil _ _ _ _⟩
theorem Qg (N base:Nat) (w:World):Qp N base w (.agg #[.string ⟨#[]⟩,Bb 0,Bb 0,Bc,Bc,Bc,Bc,Bc,Bc,Bc]) St.none:=⟨fun _ h=>h.2,fun w2 _ _=>Qtg w2 _⟩
theorem Jp.holds {base:Nat} {t:St} (h:Jp N base w t v1 v2 v3 v4 v5 v6 v7):Qp N base w (.agg #[.string t.name,Bb t.height,Bb t.time,v1,v2,v3,v4,v5,v6,v7]) t :=
 ⟨fun _ hb=>hb.2,fun _ hb hk=>⟨v1,v2,v3,v4,v5,v6,v7,rfl,(h.on hb (fun b e hr=>hk b ⟨hr,e⟩)).mem⟩⟩
def Qv (s:St) (i:Int):Ch:=(s.chans[i.toNat]?).getD ⟨0,false,0,0,0,0,0⟩
theorem Ym {x:Ch} (h:s.chans[k]?=some x):Qv s (k:Int)=x:=by grind [Qv]
theorem Qt.conn {e:Nat} {l:List Cn} {x:Cn} (h:Qt CnR 4 w N (.slice oa n e) l) (hn:n=l.length) (hx:l[k]?=some x):∃ b f,oa=some ⟨b,f,.none⟩∧b<N∧w.cell? ⟨b,f+k*4,.none⟩=some (Bb x.state)∧w.cell? ⟨b,f+k*4+1,.none⟩=some (Bb x.client)∧w.cell? ⟨b,f+k*4+2,.none⟩=some (Bb x.oclient)∧w.cell? ⟨b,f+k*4+3,.none⟩=some (Bb x.oconn):=by
 have:=(Bm.1 hx).1;obtain ⟨b,f,rfl,gx⟩:=h.spot (by omega)
 obtain ⟨hb,r,hr,cx⟩:=gx k x hx;subst hr;exact ⟨b,f,rfl,hb,cx 0 _ rfl,cx 1 _ rfl,cx 2 _ rfl,cx 3 _ rfl⟩
theorem Qt.chan {e:Nat} {l:List Ch} {x:Ch} (h:Qt ChR 7 w N (.slice oa n e) l) (hn:n=l.length) (hx:l[k]?=some x):∃ b f,oa=some ⟨b,f,.none⟩∧b<N∧w.cell? ⟨b,f+k*7,.none⟩=some (Bb x.state)∧w.cell? ⟨b,f+k*7+1,.none⟩=some (.bool x.ordered)∧w.cell? ⟨b,f+k*7+2,.none⟩=some (Bb x.conn)∧w.cell? ⟨b,f+k*7+3,.none⟩=some (Bb x.ochan)∧w.cell? ⟨b,f+k*7+4,.none⟩=some (Bb x.send)∧w.cell? ⟨b,f+k*7+5,.none⟩=some (Bb x.recv)∧w.cell? ⟨b,f+k*7+6,.none⟩=some (Bb x.ack):=by
 have:=(Bm.1 hx).1;obtain ⟨b,f,rfl,gx⟩:=h.spot (by omega)
 obtain ⟨hb,r,hr,cx⟩:=gx k x hx;subst hr;exact ⟨b,f,rfl,hb,cx 0 _ rfl,cx 1 _ rfl,cx 2 _ rfl,cx 3 _ rfl,cx 4 _ rfl,cx 5 _ rfl,cx 6 _ rfl⟩
def QaE (s:St) (i:Int):Int:=if i<0∨(s.conns.length:Int)≤i then 6 else if (Yd s i).state≠3 then 12 else if (Yd s i).oconn<0 then 8 else ZS s (Yd s i).client
def Jh (s:St) (i:Int):Int:=if Qd s≠0 then Qd s else QaE s i
def Jv (s:St) (i st:Int):Int:=if Qd s≠0 then Qd s else if i<0∨(s.chans.length:Int)≤i then 6 else if (Qv s i).state≠st then 12 else QaE s (Qv s i).conn
def Y4 (s:St):Int:=if 8≤s.chans.length then 5 else 0
def Qav (s:St) (i:Int):Int:=if Jh s i≠0 then Jh s i else Y4 s
def Qam (s:St) (i o z:Int):Int:=if Jh s i≠0 then Jh s i else if Qs 0 o=false then 3 else if z≠0 then z else Y4 s
def QdM (s:St) (i o z:Int):Int:=if Jv s i 1≠0 then Jv s i 1 else if Qs 0 o=false then 3 else z
def Zs (s:St) (i st z:Int):Int:=if Jv s i st≠0 then Jv s i st else if (Qv s i).ochan<0 then 8 else z
def QgS (s:St) (n:Int) (c:Ch):St:=if n=0 then { s with chans:=s.chans ++ [c] } else St.none
def QcQ (s:St) (n:Int):Int:=if n=0 then (s.chans.length:Int) else 0
def Qgj (s:St) (n i:Int) (c:Ch):St:=if n=0 then { s with chans:=s.chans.set i.toNat c } else St.none
def QfB (s:St) (i:Int) (o:Bool):St:=QgS s (Qav s i) ⟨1,o,i,-1,1,1,1⟩
def QlI (s:St) (i:Int) (o:Bool) (q z:Int):St:=QgS s (Qam s i q z) ⟨2,o,i,q,1,1,1⟩
def Ch.turned (c:Ch) (st q:Int):Ch:=⟨st,c.ordered,c.conn,q,c.send,c.recv,c.ack⟩
def Qlw (s:St) (i q z:Int):St:=Qgj s (QdM s i q z) i ((Qv s i).turned 3 q)
def QcR (s:St) (i st z e:Int):St:=Qgj s (Zs s i st z) i ((Qv s i).turned e (Qv s i).ochan)
def QfD (s:St) (i:Int):St:=Qgj s (Jv s i 3) i ((Qv s i).turned 4 (Qv s i).ochan)
def QaZ (s:St) (own:Ch) (st back:Int) (h:Sh) (z:Int):Prop:=JM s (Yd s own.conn).client h (Jt Qek [own.ochan.toNat]) (QcV ⟨st,own.ordered,(Yd s own.conn).oconn,back,0,0,0⟩) z
theorem Qe6 {i:Int} (h:QaE s i=0):(0≤i∧i<(s.conns.length:Int))∧(Yd s i).state=3∧0≤(Yd s i).oconn∧ZS s (Yd s i).client=0:=by grind [QaE]
theorem Z0 {i:Int} (h:Jh s i=0):Qd s=0∧QaE s i=0:=by grind [Jh]
theorem Q2 {i st:Int} (h:Jv s i st=0):Qd s=0∧(0≤i∧i<(s.chans.length:Int))∧(Qv s i).state=st∧QaE s (Qv s i).conn=0:=by grind [Jv]
structure Pk where
 src:Int
 dst:Int
 seq:Int
 data:Bg
 tmo:Int
def Pk.none:Pk:=⟨0,0,0,[],0⟩
def Pk.fits (p:Pk):Prop:=p.data.length≤140737488351232
variable {p:Pk}
def PkV (w:World) (N:Nat) (v:Value) (p:Pk):Prop:=∃ dv,v=.agg #[Bb p.src,Bb p.dst,Bb p.seq,dv,Bb p.tmo]∧Bytes w N dv p.data
theorem PkV.below (h:PkV w N v p) (hg:Below N w w'):PkV w' N v p:=by
 obtain ⟨d,e,h⟩:=h;exact ⟨d,e,h.below hg⟩
theorem PkV.mono (h:PkV w N v p) (hN:N≤g):PkV w g v p:=by
 obtain ⟨d,e,h⟩:=h;exact ⟨d,e,h.mono hN⟩
theorem PkV.open (h:PkV w N v p):∃ od cd,v=.agg #[Bb p.src,Bb p.dst,Bb p.seq,.slice od p.data.length cd,Bb p.tmo]∧Bytes w N (.slice od p.data.length cd) p.data:=by grind [PkV,Bytes]
theorem QsF (w:World) (N:Nat):PkV w N (.agg #[Bb 0,Bb 0,Bb 0,Bc,Bb 0]) Pk.none:=⟨_,rfl,.inl ⟨rfl,rfl⟩⟩
def Qz (p:Pk):Int:=if (Qs 0 p.src && (Qs 0 p.dst && (Qs 1 p.seq && Qs 1 p.tmo)))=false then 3 else if 150<p.data.length then 4 else 0
theorem Y0 (h:Qz p=0):(0≤p.src∧p.src≤1000000000000)∧(0≤p.dst∧p.dst≤1000000000000)∧(1≤p.seq∧p.seq≤1000000000000)∧(1≤p.tmo∧p.tmo≤1000000000000)∧p.data.length≤150:=by grind [Qz,Q6]
def QhT (p:Pk):List Pc:=[ZU p.src,ZU p.dst,ZU p.seq,⟨2,0,p.data⟩,ZU p.tmo]
def pkB (p:Pk):Bg:=Zk 5 ++ wrs (QhT p)
def Je (p:Pk):Bg:=sha (pkB p)
theorem Qv3 (h:Qz p=0):YC (QhT p)=.ok (pkB p)∧(pkB p).length≤400∧∀ x∈QhT p,x.fits:=by
 obtain ⟨h1,h2,h3,h4,h5⟩:=Y0 h;have n1:=Q4 p.src.toNat (by omega)
 have n2:=Q4 p.dst.toNat (by omega)
 have n3:=Q4 p.seq.toNat (by omega)
 have n4:=Q4 p.tmo.toNat (by omega)
 have n5:=Q4 p.data.length (by omega)
 have n6:=Q4 5 (by omega)
 have hl:(pkB p).length≤400:=by
  unfold pkB;simp [wrs,QhT,ZU,Pc.wr];omega
 refine ⟨?_,hl,?_⟩
 ·unfold YC
  exact Qfv _ _ _ (fun x hx=>by simp [QhT,ZU] at hx;rcases hx with rfl | rfl | rfl | rfl | rfl <;> simp) (by have:=hl;unfold pkB at this;simp [QhT] at this ⊢;omega)
 ·intro x hx
  simp [QhT,ZU] at hx
  rcases hx with rfl | rfl | rfl | rfl | rfl <;> (refine ⟨?_,?_⟩ <;> simp [Pc.ok] <;> omega)
def Jb (s:St) (i:Int) (l:List Int):Int:=if Qd s≠0 then Qd s else if i<0∨(s.chans.length:Int)≤i then 6 else if (Qv s i).state∈l then QaE s (Qv s i).conn else 12
theorem JB {i:Int} {l:List Int} (h:Jb s i l=0):Qd s=0∧(0≤i∧i<(s.chans.length:Int))∧(Qv s i).state∈l∧QaE s (Qv s i).conn=0:=by grind [Jb]
def Qbp (s:St) (i:Int):Cl:=QiH s (Yd s (Qv s i).conn).client
theorem Y1 {i:Int} {l:List Int} (h:Jb s i l=0):∃ (j k m:Nat) (c:Ch) (d:Cn) (f:Cl),i=(j:Int)∧s.chans[j]?=some c∧Qv s i=c∧c.conn=(k:Int)∧s.conns[k]?=some d∧d.client=(m:Int)∧s.clients[m]?=some f∧Qbp s i=f∧Q1 c=0∧Qy f=0∧YL f s.time=true:=by
 obtain ⟨hw,hi,hm,ho⟩:=JB h;obtain ⟨hc,-,-,hl⟩:=Qe6 ho;have z:=Qaq hl;obtain ⟨j,rfl⟩:∃ j:Nat,i=(j:Int):=⟨i.toNat,by omega⟩
 obtain ⟨c,hj⟩:∃ c,s.chans[j]?=some c:=⟨_,Bk (by omega)⟩
 have b:=Ym hj;rw [b] at hc z hl;obtain ⟨k,hk⟩:∃ k:Nat,c.conn=(k:Int):=⟨c.conn.toNat,by omega⟩
 obtain ⟨d,hd⟩:∃ d,s.conns[k]?=some d:=⟨_,Bk (by omega)⟩
 rw [hk,Yn hd] at z hl;obtain ⟨m,q⟩:∃ m:Nat,d.client=(m:Int):=⟨d.client.toNat,by omega⟩
 obtain ⟨f,hf⟩:∃ f,s.clients[m]?=some f:=⟨_,Bk (by omega)⟩
 refine ⟨j,k,m,c,d,f,rfl,hj,b,hk,hd,q,hf,?_,(QB hw).chans c (Bn hj),QbH hw f (Bn hf),?_⟩
 ·unfold Qbp
  rw [b,hk,Yn hd,q,QaS hf]
 ·rw [q,Qmd hf] at hl
  cases e:YL f s.time with
  | true=>rfl
  | false=>rw [e,if_pos rfl] at hl;cases hl
def Y6 (ch seq:Int) (m:Mk):Bool:=decide (m.chan=ch∧m.seq=seq)
def ZP (l:List Mk) (ch seq:Int):Option Mk:=l.find? (Y6 ch seq)
def Q0 (l:List Mk) (ch seq:Int):List Mk:=l.filter fun m=>!Y6 ch seq m
def QZ (l:List Mk) (x:Mk):List Mk:=l.filter (fun m=>Qw m x) ++ x :: l.filter (fun m=>Qw x m)
abbrev QaW (l:List Mk):Prop:=l.Pairwise fun a b=>Qw a b=true
theorem QeZ {a b:Mk} (h:Qw a b=true):Qw b a=false:=by grind [Qw]
theorem Qmj (ch seq:Int) (m:Mk):Y6 ch seq m=true↔m.chan=ch∧m.seq=seq:=by simp [Y6]
theorem Qsm (a x:Mk):Qw a x=true∨Y6 x.chan x.seq a=true∨Qw x a=true:=by simp [Qw,Y6];omega
def Yh (l:List Mk) (ch seq:Int):Nat:=(l.filter fun m=>Qw m ⟨ch,seq,[]⟩).length
theorem Qcs:∀ (l:List Mk) (x:Mk),QaW l→l=l.filter (fun m=>Qw m x) ++ (l.filter (fun m=>Y6 x.chan x.seq m) ++ l.filter (fun m=>Qw x m))∧(l.filter fun m=>Y6 x.chan x.seq m).length≤1
 | [],x,_=>by simp
 | a :: l,x,h=>by
  obtain ⟨h1,h2⟩:=CL.1 h;obtain ⟨ih,il⟩:=Qcs l x h2
  rcases Qsm a x with e | e | e
  ·have e2:Qw x a=false:=QeZ e
   have e3:Y6 x.chan x.seq a=false:=by simp [Qw,Y6] at e ⊢;omega
   simp only [D7,e,e2,e3,if_true,DS,if_false];refine ⟨?_,il⟩;rw [By,← ih]
  ·have e2:Qw a x=false:=by simp [Qw,Y6] at e ⊢;omega
   have e3:Qw x a=false:=by simp [Qw,Y6] at e ⊢;omega
   have k1:l.filter (fun m=>Qw m x)=[]:=Cp.2 fun m hm=>by have:=h1 m hm;simp [Qw,Y6] at e this ⊢;omega
   have k2:l.filter (fun m=>Y6 x.chan x.seq m)=[]:=Cp.2 fun m hm=>by have:=h1 m hm;simp [Qw,Y6] at e this ⊢;omega
   simp only [D7,e,e2,e3,if_true,DS,if_false];rw [k1,k2] at ih ⊢;refine ⟨?_,by simp⟩
   simp only [Bv,By] at ih ⊢;rw [← ih]
  ·have e2:Qw a x=false:=QeZ e
   have e3:Y6 x.chan x.seq a=false:=by simp [Qw,Y6] at e ⊢;omega
   have k1:l.filter (fun m=>Qw m x)=[]:=Cp.2 fun m hm=>by have:=h1 m hm;simp [Qw] at e this ⊢;omega
   have k2:l.filter (fun m=>Y6 x.chan x.seq m)=[]:=Cp.2 fun m hm=>by have:=h1 m hm;simp [Qw,Y6] at e this ⊢;omega
   simp only [D7,e,e2,e3,if_true,DS,if_false];rw [k1,k2] at ih ⊢;refine ⟨?_,by simp⟩
   simp only [Bv] at ih ⊢;rw [← ih]
theorem Quc (l:List Mk) (ch seq:Int):ZP l ch seq=(l.filter (Y6 ch seq)).head?:=by grind [ZP]
theorem Qud {l:List Mk} {seq:Int} {m:Mk} (h:ZP l ch seq=some m):m∈l∧m.chan=ch∧m.seq=seq:=by grind [ZP,Qmj]
theorem QfJ {l:List Mk} {seq:Int} (h:ZP l ch seq=none):∀ m∈l,¬ (m.chan=ch∧m.seq=seq):=by grind [ZP,Qmj]
theorem Qe9 {l:List Mk} {x:Mk} (h:QaW l) {m:Mk} (hm:ZP l x.chan x.seq=some m):l[Yh l x.chan x.seq]?=some m∧l.set (Yh l x.chan x.seq) x=QZ l x∧l.take (Yh l x.chan x.seq) ++ l.drop (Yh l x.chan x.seq+1)=Q0 l x.chan x.seq:=by
 obtain ⟨hp,hl⟩:=Qcs l x h;rw [Quc] at hm
 have he:l.filter (fun m=>Y6 x.chan x.seq m)=[m]:=by
  cases hf:l.filter (fun m=>Y6 x.chan x.seq m) with
  | nil=>rw [show l.filter (Y6 x.chan x.seq)=[] from hf] at hm;cases hm
  | cons a r =>
   rw [hf] at hl;have hr:r=[]:=CD.1 (by simp at hl;exact CD.2 hl)
   rw [show l.filter (Y6 x.chan x.seq)=a :: r from hf] at hm;simp at hm;rw [hr,hm]
 rw [he] at hp;have e:Yh l x.chan x.seq=(l.filter fun m=>Qw m x).length:=rfl
 have hw:Q0 l x.chan x.seq=l.filter (fun m=>Qw m x) ++ l.filter (fun m=>Qw x m):=by
  unfold Q0
  have b:Y6 x.chan x.seq m=true:=by
   have:m∈l.filter (fun m=>Y6 x.chan x.seq m):=by rw [he];simp
   exact (Cf.1 this).2
  conv=>lhs;rw [hp]
  rw [DQ,DQ];have k1:(l.filter (fun m=>Qw m x)).filter (fun m=>!Y6 x.chan x.seq m)=l.filter (fun m=>Qw m x):=CT.2 fun a ha=>by have:=(Cf.1 ha).2;simp [Qw,Y6] at this ⊢;omega
  have k2:(l.filter (fun m=>Qw x m)).filter (fun m=>!Y6 x.chan x.seq m)=l.filter (fun m=>Qw x m):=CT.2 fun a ha=>by have:=(Cf.1 ha).2;simp [Qw,Y6] at this ⊢;omega
  rw [k1,k2];simp [b]
 generalize hA:l.filter (fun m=>Qw m x)=A at *
 generalize hB:l.filter (fun m=>Qw x m)=B at *
 rw [e];refine ⟨?_,?_,?_⟩
 ·rw [hp];simp
 ·unfold QZ
  rw [hA,hB]
  conv=>lhs;rw [hp]
  rw [Db _ _ (Bj _)];simp
 ·rw [hw]
  conv=>lhs;rw [hp]
  simp
theorem QsH {l:List Mk} {x:Mk} (h:QaW l) (hm:ZP l x.chan x.seq=none):l.take (Yh l x.chan x.seq) ++ x :: l.drop (Yh l x.chan x.seq)=QZ l x∧Q0 l x.chan x.seq=l:=by
 obtain ⟨hp,hl⟩:=Qcs l x h;have he:l.filter (fun m=>Y6 x.chan x.seq m)=[]:=Cp.2 fun m b=>by have:=QfJ hm m b;simpa [Y6] using this
 rw [he] at hp;have e:Yh l x.chan x.seq=(l.filter fun m=>Qw m x).length:=rfl
 refine ⟨?_,CT.2 fun m b=>by have:=QfJ hm m b;rw [show Y6 x.chan x.seq m=false from BD this];rfl⟩
 unfold QZ;generalize hA:l.filter (fun m=>Qw m x)=A at *
 generalize hB:l.filter (fun m=>Qw x m)=B at *
 rw [e];rw [hp];simp
theorem QsG (l:List Mk) (ch seq:Int):Yh l ch seq≤l.length:=by grind [Yh]
theorem Qq3 {l:List Mk} {x m:Mk} (h:m∈QZ l x):m=x∨m∈l:=by grind [QZ]
theorem Qoz {l:List Mk} {x:Mk} (h:QaW l):QaW (QZ l x):=by
 refine D4.2 ⟨h.filter _,CL.2 ⟨fun m hm=>(Cf.1 hm).2,h.filter _⟩,fun a ha b hb=>?_⟩
 have h1:=(Cf.1 ha).2
 rcases Bo.1 hb with rfl | hb
 ·omega
 ·exact Qci h1 (Cf.1 hb).2
theorem Qq2 (l:List Mk) (x:Mk):ZP (QZ l x) x.chan x.seq=some x:=by grind [ZP,QZ,Qw,Y6]
theorem Qlf (l:List Mk) (ch seq:Int):ZP (Q0 l ch seq) ch seq=none:=by grind [ZP,Q0]
theorem QfY (l:List Mk) (x:Mk) (h:QaW l):l.length≤(QZ l x).length∧(QZ l x).length≤l.length+1:=by
 obtain ⟨hp,hl⟩:=Qcs l x h;have h1:=Bl List.length hp;unfold QZ;simp only [Br,Cy] at h1 ⊢;omega
theorem Qlg (l:List Mk) (ch seq:Int):(Q0 l ch seq).length≤l.length:=List.length_filter_le _ _
theorem QuK {l:List Mk}:∀ (p:Option Mk),(∀ m∈l,JV m=0)→QaW l→(∀ a,p=some a→∀ m∈l,Qw a m=true)→Qdj JV Qw p l=0:=by
 induction l with
 | nil=>intros;rfl
 | cons x l ih =>
  intro p h1 h2 h3;obtain ⟨g1,g2⟩:=CL.1 h2;rw [Qdj,if_neg (by simp [h1 x List.mem_cons_self])]
  have:QaH Qw p x=true:=by
   cases p with
   | none=>rfl
   | some a=>exact h3 a rfl x Ci
  rw [this,if_neg (by simp)]
  exact ih (some x) (fun m hm=>h1 m (Cr _ hm)) g2 (fun a ha m hm=>by cases ha;exact g1 m hm)
theorem QjJ {l:List Mk} (h1:∀ m∈l,JV m=0) (h2:QaW l):QP l=0:=QuK none h1 h2 (fun _ h=>by cases h)
theorem Qdl {l:List Mk} {x:Mk} (h:QP l=0) (hx:JV x=0):QP (QZ l x)=0:=by grind [Y5,QjJ,Qq3,Qoz]
theorem Qir {l:List Mk} {seq:Int} (h:QP l=0):QP (Q0 l ch seq)=0:=by grind [Q0,Y5,QjJ]
def QeX (c:Cl):Int:=match c.known.getLast? with
 | some k=>k.height
 | none=>0
def Jx (s:St) (i:Int) (data:Bg) (tmo:Int):Pk:=⟨i,(Qv s i).ochan,(Qv s i).send,data,tmo⟩
def QiT (s:St) (p:Pk) (last send:Int):Int:=if Qz p≠0 then Qz p else if p.tmo≤last then 11 else if 50≤s.sent.length∨1000000000000≤send then 5 else 0
def YB (s:St) (i:Int) (data:Bg) (tmo:Int):Int:=if Jb s i [3]≠0 then Jb s i [3] else QiT s (Jx s i data tmo) (QeX (Qbp s i)) (Qv s i).send
def Ch.sent1 (c:Ch):Ch:=⟨c.state,c.ordered,c.conn,c.ochan,c.send+1,c.recv,c.ack⟩
def Ch.recv1 (c:Ch):Ch:=⟨c.state,c.ordered,c.conn,c.ochan,c.send,c.recv+1,c.ack⟩
def Ch.ack1 (c:Ch):Ch:=⟨c.state,c.ordered,c.conn,c.ochan,c.send,c.recv,c.ack+1⟩
def Ch.shut (c:Ch):Ch:=⟨4,c.ordered,c.conn,c.ochan,c.send,c.recv,c.ack⟩
def QbX (s:St) (i:Int) (c:Ch):St:={ s with chans:=s.chans.set i.toNat c }
def Qdc (s:St) (p:Pk):St:={ QbX s p.src (Qv s p.src).sent1 with sent:=QZ s.sent ⟨p.src,p.seq,Je p⟩ }
def Qh9 (s:St) (i:Int) (data:Bg) (tmo:Int):St:=if YB s i data tmo=0 then Qdc s (Jx s i data tmo) else St.none
def Qh8 (s:St) (i:Int) (data:Bg) (tmo:Int):Pk:=if YB s i data tmo=0 then Jx s i data tmo else Pk.none
def QcG (s:St) (c:Ch) (p:Pk):Bool:=if c.ordered=true then decide (p.seq≠c.recv) else (ZP s.got p.dst p.seq).isSome
def YV (s:St) (p:Pk) (n:Nat):Int:=if Qz p≠0 then Qz p else if Jb s p.dst [3]≠0 then Jb s p.dst [3] else if (Qv s p.dst).ochan≠p.src then 8 else if p.tmo≤s.height then 11
 else if QcG s (Qv s p.dst) p=true then 12 else if (50≤s.got.length∨50≤s.acks.length)∨150<n∨1000000000000≤(Qv s p.dst).recv then 5 else 0
def ZV (s:St) (p:Pk) (n:Nat) (z:Int):Int:=if YV s p n≠0 then YV s p n else z
def QeG (s:St) (p:Pk) (h:Sh) (z:Int):Prop:=QU (Qbp s p.dst) s.time h.height (fun r=>h.prf.key=Jt QhC [p.src.toNat,p.seq.toNat]∧h.prf.val=Je p∧JZ r h.prf) z
def QbQ (s:St) (p:Pk) (ack:Bg):St:={ (if (Qv s p.dst).ordered=true then QbX s p.dst (Qv s p.dst).recv1 else { s with got:=QZ s.got ⟨p.dst,p.seq,Je p⟩ }) with acks:=QZ s.acks ⟨p.dst,p.seq,sha ack⟩ }
def Qgk (s:St) (p:Pk) (ack:Bg) (z:Int):St:=if ZV s p ack.length z=0 then QbQ s p ack else St.none
def Jf (s:St) (p:Pk):Int:=if Qz p≠0 then Qz p else if Jb s p.src [3,4]≠0 then Jb s p.src [3,4] else if (Qv s p.src).ochan≠p.dst then 8 else match ZP s.sent p.src p.seq with
 | none=>6
 | some m=>if m.dig≠Je p then 8 else 0
def QdP (c:Ch) (p:Pk) (n:Nat) (z:Int):Int:=if 150<n then 4 else if c.ordered=true∧p.seq≠c.ack then 12 else if c.ordered=true∧1000000000000≤c.ack then 5 else z
def Zd (s:St) (p:Pk) (n:Nat) (z:Int):Int:=if Jf s p≠0 then Jf s p else QdP (Qv s p.src) p n z
def QgH (s:St) (p:Pk) (ack:Bg) (h:Sh) (z:Int):Prop:=QU (Qbp s p.src) s.time h.height (fun r=>h.prf.key=Jt QhA [p.dst.toNat,p.seq.toNat]∧h.prf.val=sha ack∧JZ r h.prf) z
def QhD (c:Ch) (p:Pk) (next:Int) (height z:Int):Int:=if height<p.tmo then 11 else if c.ordered=true∧(next<1∨p.seq<next) then 12 else z
def Zx (s:St) (p:Pk) (next:Int) (height z:Int):Int:=if Jf s p≠0 then Jf s p else QhD (Qv s p.src) p next height z
def Qdt (s:St) (p:Pk) (next:Int) (h:Sh) (z:Int):Prop:=if (Qv s p.src).ordered=true then QU (Qbp s p.src) s.time h.height (fun r=>h.prf.key=Jt Qel [p.dst.toNat]∧h.prf.val=ZK [next]∧JZ r h.prf) z
 else QU (Qbp s p.src) s.time h.height (fun r=>QaG r (Jt QhB [p.dst.toNat,p.seq.toNat]) h.gap) z
def Jo (s:St) (p:Pk) (c:Ch):St:={ (if (Qv s p.src).ordered=true then QbX s p.src c else s) with sent:=Q0 s.sent p.src p.seq }
def Ze (s:St) (p:Pk) (n:Nat) (z:Int):St:=if Zd s p n z=0 then Jo s p (Qv s p.src).ack1 else St.none
def Zy (s:St) (p:Pk) (next height z:Int):St:=if Zx s p next height z=0 then Jo s p (Qv s p.src).shut else St.none
def JY (N base:Nat) (w:World) (v:Value) (p:Pk):Prop:=QM (fun b=>(b<N∨base≤b)∧b<w.heap.size) w (fun w2=>PkV w2 w2.heap.size v p)
theorem Jr (N base:Nat) (w:World):JY N base w (.agg #[Bb 0,Bb 0,Bb 0,Bc,Bb 0]) Pk.none:=⟨fun _ h=>h.2,fun w2 _ _=>QsF w2 _⟩
end Go.Proofs.YtnedafiokmjkkaaGreatDoor
