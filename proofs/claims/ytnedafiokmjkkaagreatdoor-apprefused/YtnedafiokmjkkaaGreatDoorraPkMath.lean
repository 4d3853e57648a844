/- Packets. -/
import Derived.Test.YtnedafiokmjkkaaGreatDoorraStCopy
import Derived.Test.YtnedafiokmjkkaaGreatDoorraClShown
namespace Go.Proofs.YtnedafiokmjkkaaGreatDoor
open Go.RowKit
variable {w w':World} {B N g k n:Nat} {v v1 v2 v3 v4 v5 v6 v7:Value} {s:St} {oa:Option Addr} {ch:Int}
structure Sh where
 height:Int
 prf:Prf
 gap:Gp
def Sh.fits (h:Sh):Prop:=h.prf.fits∧h.gap.fits
def ShV (w:World) (N:Nat) (v:Value) (h:Sh):Prop:=∃ x1 x2 x3 k1 v1 t1 k2 v2 t2,v=.agg #[Bb h.height,Bb h.prf.index,Bb h.prf.size,x1,x2,x3,.bool h.gap.hasL,.bool h.gap.hasR,Bb h.gap.left.index,Bb h.gap.left.size,k1,v1,t1,Bb h.gap.right.index,Bb h.gap.right.size,k2,v2,t2] ∧
 Qd3 w N (.agg #[Bb h.prf.index,Bb h.prf.size,x1,x2,x3]) h.prf∧GpV w N (.agg #[.bool h.gap.hasL,.bool h.gap.hasR,Bb h.gap.left.index,Bb h.gap.left.size,k1,v1,t1,Bb h.gap.right.index,Bb h.gap.right.size,k2,v2,t2]) h.gap
theorem ShV.below {h:Sh} (hv:ShV w N v h) (hg:Below N w w'):ShV w' N v h:=by
 obtain ⟨x1,x2,x3,k1,v1,t1,k2,v2,t2,e,hp,hq⟩:=hv;exact ⟨x1,x2,x3,k1,v1,t1,k2,v2,t2,e,hp.below hg,hq.below hg⟩
theorem ShV.mono {h:Sh} (hv:ShV w N v h) (hN:N≤g):ShV w g v h:=by
 obtain ⟨x1,x2,x3,k1,v1,t1,k2,v2,t2,e,hp,hq⟩:=hv;exact ⟨x1,x2,x3,k1,v1,t1,k2,v2,t2,e,hp.mono hN,hq.mono hN⟩
theorem ShV.open {h:Sh} (hv:ShV w N v h):∃ q1 e1 q2 e2 q3 e3 r1 s1 r2 s2 r3 s3 r4 s4 r5 s5 r6 s6,
  v=.agg #[Bb h.height,Bb h.prf.index,Bb h.prf.size,.slice q1 h.prf.key.length e1,.slice q2 h.prf.val.length e2,.slice q3 h.prf.path.length e3,.bool h.gap.hasL,.bool h.gap.hasR,Bb h.gap.left.index,Bb h.gap.left.size,.slice r1 h.gap.left.key.length s1,.slice r2 h.gap.left.val.length s2,.slice r3 h.gap.left.path.length s3,Bb h.gap.right.index,Bb h.gap.right.size,.slice r4 h.gap.right.key.length s4,.slice r5 h.gap.right.val.length s5,.slice r6 h.gap.right.path.length s6] ∧
  Qd3 w N (.agg #[Bb h.prf.index,Bb h.prf.size,.slice q1 h.prf.key.length e1,.slice q2 h.prf.val.length e2,.slice q3 h.prf.path.length e3]) h.prf:=by
 obtain ⟨x1,x2,x3,k1,v1,t1,k2,v2,t2,rfl,hp,hq⟩:=hv;have b:=hp;obtain ⟨a1,a2,a3,ea,b1,b2,b3⟩:=hp;obtain ⟨c1,c2,c3,c4,c5,c6,eb,d1,d2,d3,d4,d5,d6⟩:=hq;simp at ea eb;obtain ⟨rfl,rfl,rfl⟩:=ea;obtain ⟨rfl,rfl,rfl,rfl,rfl,rfl⟩:=eb;obtain ⟨q1,e1,rfl,-⟩:=b1.shape;obtain ⟨q2,e2,rfl,-⟩:=b2.shape;obtain ⟨q3,e3,rfl,-⟩:=b3.shape;obtain ⟨r1,s1,rfl,-⟩:=d1.shape;obtain ⟨r2,s2,rfl,-⟩:=d2.shape;obtain ⟨r3,s3,rfl,-⟩:=d3.shape;obtain ⟨r4,s4,rfl,-⟩:=d4.shape;obtain ⟨r5,s5,rfl,-⟩:=d5.shape;obtain ⟨r6,s6,rfl,-⟩:=d6.shape;exact ⟨_,_,_,_,_,_,_,_,_,_,_,_,_,_,_,_,_,_,rfl,b⟩
def Qiy (s:St) (c:Int):Cl:=(s.clients[c.toNat]?).getD Cl.none
def Yd (s:St) (i:Int):Cn:=(s.conns[i.toNat]?).getD ⟨0,0,0,0⟩
theorem QaM {x:Cl} (h:s.clients[k]?=some x):Qiy s (k:Int)=x:=by grind [Qiy]
theorem Yp {x:Cn} (h:s.conns[k]?=some x):Yd s (k:Int)=x:=by grind [Yd]
def ZO (s:St) (c:Int):Int:=if c<0∨(s.clients.length:Int)≤c then 6 else if YJ (Qiy s c) s.time=false then 12 else 0
theorem QhH {c:Int} (h:c<0∨(s.clients.length:Int)≤c):ZO s c=6:=if_pos h
theorem Qak {c:Int} (h:ZO s c=0):0≤c∧c<(s.clients.length:Int):=by grind [ZO]
theorem QlU {x:Cl} (h:s.clients[k]?=some x):ZO s (k:Int)=if YJ x s.time=false then 12 else 0:=by grind [ZO,QaM]
def JY (s:St) (c:Int):Int:=if Qd s≠0 then Qd s else ZO s c
def Qb6 (s:St) (i st:Int):Int:=if Qd s≠0 then Qd s else if i<0∨(s.conns.length:Int)≤i then 6 else if (Yd s i).state≠st then 12 else ZO s (Yd s i).client
def QbN (s:St):Int:=if 8≤s.conns.length then 5 else 0
def Qat (s:St) (c o:Int):Int:=if JY s c≠0 then JY s c else if Qs 0 o=false then 3 else QbN s
def Qco (s:St) (c o q z:Int):Int:=if JY s c≠0 then JY s c else if (Qs 0 o && Qs 0 q)=false then 3 else if z≠0 then z else QbN s
def Qiu (s:St) (i q z:Int):Int:=if Qb6 s i 1≠0 then Qb6 s i 1 else if Qs 0 q=false then 3 else z
def QcT (s:St) (i z:Int):Int:=if Qb6 s i 2≠0 then Qb6 s i 2 else if (Yd s i).oconn<0 then 8 else z
def QmR (s:St) (n:Int) (c:Cn):St:=if n=0 then { s with conns:=s.conns ++ [c] } else St.none
def Qla (s:St) (n:Int):Int:=if n=0 then (s.conns.length:Int) else 0
def Qmd (s:St) (n i:Int) (c:Cn):St:=if n=0 then { s with conns:=s.conns.set i.toNat c } else St.none
def QlL (s:St) (c o:Int):St:=QmR s (Qat s c o) ⟨1,c,o,-1⟩
def Qtc (s:St) (c o q z:Int):St:=QmR s (Qco s c o q z) ⟨2,c,o,q⟩
def Qq3 (s:St) (i q z:Int):St:=Qmd s (Qiu s i q z) i ⟨3,(Yd s i).client,(Yd s i).oclient,q⟩
def Qlp (s:St) (i z:Int):St:=Qmd s (QcT s i z) i ⟨3,(Yd s i).client,(Yd s i).oclient,(Yd s i).oconn⟩
def JK (s:St) (c:Int) (h:Sh) (key val:Bg) (z:Int):Prop:=QT (Qiy s c) s.time h.height (fun r=>h.prf.key=key∧h.prf.val=val∧JX r h.prf) z
def QmT (s:St) (c o q:Int) (h:Sh) (z:Int):Prop:=JK s c h (Jr QaY [q.toNat]) (QcU ⟨1,o,c,-1⟩) z
def Qj5 (s:St) (i q:Int) (h:Sh) (z:Int):Prop:=JK s (Yd s i).client h (Jr QaY [q.toNat]) (QcU ⟨2,(Yd s i).oclient,(Yd s i).client,i⟩) z
def QgB (s:St) (i:Int) (h:Sh) (z:Int):Prop:=JK s (Yd s i).client h (Jr QaY [(Yd s i).oconn.toNat]) (QcU ⟨3,(Yd s i).oclient,(Yd s i).client,i⟩) z
theorem QV (h:Qd s=0):Y7 s.name=true∧(Qs 0 s.height=true∧Qs 0 s.time=true)∧Qav s=false∧Qje s=0:=by
 unfold Qd at h
 split at h
 ·cases h
 split at h
 ·cases h
 split at h
 ·cases h
 rename_i h1 h2 h3;refine ⟨by simpa using h1,?_,by simpa using h3,h⟩
 cases e1:Qs 0 s.height <;> cases e2:Qs 0 s.time <;> simp_all
theorem QbE (h:Qd s=0):∀ c∈s.clients,Qz c=0:=by
 have h':=(JD _).1 (QV h).2.2.2;simp only [Bo,Cu] at h';exact (Yu _ _).1 h'.1
theorem QF (h:Qd s=0):few s:=by
 have h3:=(QV h).2.2.1;have h4:=Dl h3;exact ⟨by omega,by omega,by omega,by omega,by omega,by omega,by omega,fun c hc=>by have:=((Yc c).1 (QbE h c hc)).2.2.1;omega⟩
theorem QmN (h:Qd s=0):0≤s.time∧s.time≤1000000000000:=(Q6 _ _).1 (QV h).2.1.2
theorem Qgp {l:List Cn} (h:Qd s=0) (hl:l.length≤8) (hc:∀ c∈l,Jf c=0):Qd { s with conns:=l }=0:=by
 obtain ⟨h1,h2,h3,h4⟩:=QV h;have h5:=Dl (show decide _=false from h3);unfold Qd;rw [if_neg (by simp [h1]),if_neg (by simp [h2.1,h2.2]),if_neg (by simp [Qav];omega)]
 have h':=(JD _).1 h4;simp only [Bo,BG,BJ,Cu,CO] at h';refine (JD _).2 ?_;simp only [Bo,BG,BJ,Cu,CO];exact ⟨h'.1,(Yu _ _).2 hc,h'.2.2⟩
def Qp (N base:Nat) (w:World) (v:Value) (t:St):Prop:=QM (fun b=>(b<N∨base≤b)∧b<w.heap.size) w (fun w2=>StV w2 w2.heap.size v t)
theorem Qp.now {base:Nat} {t:St} (h:Qp N base w v t):StV w w.heap.size v t:=QM.now h
theorem Qp.on {base:Nat} {w2:World} {t:St} (h:Qp N base w v t) (hb:Below 0 w w2) (hk:∀ b,b<w.heap.size→b<N∨base≤b→w2.heap[b]?=w.heap[b]?):Qp N base w2 v t :=
 (QM.on h hb (fun b hF=>hk b hF.2 hF.1)).wide (fun _ hF=>⟨hF.1,Br hF.2 hb.size⟩) (fun _ hF=>hF.2)
theorem Qp.below {base:Nat} {w2:World} {t:St} (h:Qp N base w v t) (hb:Bd w w2):Qp N base w2 v t:=h.on (hb.mono (by omega)) (fun b d _=>hb.block b d)
theorem Qp.lower {base base':Nat} {t:St} (h:Qp N base w v t) (hb:base'≤base):Qp N base' w v t:=QM.wide h (fun _ hF=>⟨hF.1.imp id (by omega),hF.2⟩) (fun _ hF=>hF.2)
theorem QkQ (hb:Below B w' w) (hg:B≤g) (cs:Array Value):Below B w' (w.setRow g cs):=hb.trans ⟨rfl,rfl,rfl,by simp,fun k hk=>BV w g k cs (by omega)⟩
theorem Qp.row {base:Nat} {t:St} (h:Qp N base w v t) (h1:N≤g) (h2:g<base) (cs:Array Value):Qp N base (w.setRow g cs) v t :=
 h.on (QkQ (Bi 0 w) (by omega) cs) (fun b _ hlt=>BV w g b cs (by omega))
theorem Qp.setCell {base:Nat} {t:St} (h:Qp N base w v t) {a:Addr} (h1:N≤a.block) (h2:a.block<base) (x:Value):Qp N base (w.setCell a x) v t :=
 h.on ((Bi 0 w).setCell (by omega) x) (fun b _ hlt=>DM _ _ _ _ (by omega))
theorem Qmy (w:World) (N:Nat):StV w N (.agg #[.string ⟨#[]⟩,Bb 0,Bb 0,Bc,Bc,Bc,Bc,Bc,Bc,Bc]) St.none:=⟨_,_,_,_,_,_,_,rfl,Qt.nil _ _ _ _,Qt.nil _ _ _ _,Qt.nil _ _ _ _,Qt.nil _ _ _ _,Qt.nil _ _ _ _,Qt.nil _ _ _ _,Qt.nil _ _ _ _⟩
theorem Qg (N base:Nat) (w:World):Qp N base w (.agg #[.string ⟨#[]⟩,Bb 0,Bb 0,Bc,Bc,Bc,Bc,Bc,Bc,Bc]) St.none:=⟨fun _ h=>h.2,fun w2 _ _=>Qmy w2 _⟩
theorem Jn.holds {base:Nat} {t:St} (h:Jn N base w t v1 v2 v3 v4 v5 v6 v7):Qp N base w (.agg #[.string t.name,Bb t.height,Bb t.time,v1,v2,v3,v4,v5,v6,v7]) t :=
 ⟨fun _ hb=>hb.2,fun _ hb hk=>⟨v1,v2,v3,v4,v5,v6,v7,rfl,(h.on hb (fun b d hr=>hk b ⟨hr,d⟩)).mem⟩⟩
def Qx (s:St) (i:Int):Ch:=(s.chans[i.toNat]?).getD ⟨0,false,0,0,0,0,0⟩
theorem Yo {x:Ch} (h:s.chans[k]?=some x):Qx s (k:Int)=x:=by grind [Qx]
theorem Qt.conn {d:Nat} {l:List Cn} {x:Cn} (h:Qt CnR 4 w N (.slice oa n d) l) (hn:n=l.length) (hx:l[k]?=some x):∃ b f,oa=some ⟨b,f,.none⟩∧b<N∧w.cell? ⟨b,f+k*4,.none⟩=some (Bb x.state)∧w.cell? ⟨b,f+k*4+1,.none⟩=some (Bb x.client)∧w.cell? ⟨b,f+k*4+2,.none⟩=some (Bb x.oclient)∧w.cell? ⟨b,f+k*4+3,.none⟩=some (Bb x.oconn):=by
 have:=(Bm.1 hx).1;obtain ⟨b,f,rfl,gx⟩:=h.spot (by omega)
 obtain ⟨hb,r,hr,cx⟩:=gx k x hx;subst hr;exact ⟨b,f,rfl,hb,cx 0 _ rfl,cx 1 _ rfl,cx 2 _ rfl,cx 3 _ rfl⟩
theorem Qt.chan {d:Nat} {l:List Ch} {x:Ch} (h:Qt ChR 7 w N (.slice oa n d) l) (hn:n=l.length) (hx:l[k]?=some x):∃ b f,oa=some ⟨b,f,.none⟩∧b<N∧w.cell? ⟨b,f+k*7,.none⟩=some (Bb x.state)∧w.cell? ⟨b,f+k*7+1,.none⟩=some (.bool x.ordered)∧w.cell? ⟨b,f+k*7+2,.none⟩=some (Bb x.conn)∧w.cell? ⟨b,f+k*7+3,.none⟩=some (Bb x.ochan)∧w.cell? ⟨b,f+k*7+4,.none⟩=some (Bb x.send)∧w.cell? ⟨b,f+k*7+5,.none⟩=some (Bb x.recv)∧w.cell? ⟨b,f+k*7+6,.none⟩=some (Bb x.ack):=by
 have:=(Bm.1 hx).1;obtain ⟨b,f,rfl,gx⟩:=h.spot (by omega)
 obtain ⟨hb,r,hr,cx⟩:=gx k x hx;subst hr;exact ⟨b,f,rfl,hb,cx 0 _ rfl,cx 1 _ rfl,cx 2 _ rfl,cx 3 _ rfl,cx 4 _ rfl,cx 5 _ rfl,cx 6 _ rfl⟩
def Qax (s:St) (i:Int):Int:=if i<0∨(s.conns.length:Int)≤i then 6 else if (Yd s i).state≠3 then 12 else if (Yd s i).oconn<0 then 8 else ZO s (Yd s i).client
def Je (s:St) (i:Int):Int:=if Qd s≠0 then Qd s else Qax s i
def Jt (s:St) (i st:Int):Int:=if Qd s≠0 then Qd s else if i<0∨(s.chans.length:Int)≤i then 6 else if (Qx s i).state≠st then 12 else Qax s (Qx s i).conn
def Y2 (s:St):Int:=if 8≤s.chans.length then 5 else 0
def Qap (s:St) (i:Int):Int:=if Je s i≠0 then Je s i else Y2 s
def Qaf (s:St) (i o z:Int):Int:=if Je s i≠0 then Je s i else if Qs 0 o=false then 3 else if z≠0 then z else Y2 s
def QdI (s:St) (i o z:Int):Int:=if Jt s i 1≠0 then Jt s i 1 else if Qs 0 o=false then 3 else z
def Zk (s:St) (i st z:Int):Int:=if Jt s i st≠0 then Jt s i st else if (Qx s i).ochan<0 then 8 else z
def QgN (s:St) (n:Int) (c:Ch):St:=if n=0 then { s with chans:=s.chans ++ [c] } else St.none
def QcL (s:St) (n:Int):Int:=if n=0 then (s.chans.length:Int) else 0
def Qgd (s:St) (n i:Int) (c:Ch):St:=if n=0 then { s with chans:=s.chans.set i.toNat c } else St.none
def Qfv (s:St) (i:Int) (o:Bool):St:=QgN s (Qap s i) ⟨1,o,i,-1,1,1,1⟩
def Qlt (s:St) (i:Int) (o:Bool) (q z:Int):St:=QgN s (Qaf s i q z) ⟨2,o,i,q,1,1,1⟩
def Ch.turned (c:Ch) (st q:Int):Ch:=⟨st,c.ordered,c.conn,q,c.send,c.recv,c.ack⟩
def Qlg (s:St) (i q z:Int):St:=Qgd s (QdI s i q z) i ((Qx s i).turned 3 q)
def QcM (s:St) (i st z e:Int):St:=Qgd s (Zk s i st z) i ((Qx s i).turned e (Qx s i).ochan)
def Qfx (s:St) (i:Int):St:=Qgd s (Jt s i 3) i ((Qx s i).turned 4 (Qx s i).ochan)
def QaT (s:St) (own:Ch) (st back:Int) (h:Sh) (z:Int):Prop:=JK s (Yd s own.conn).client h (Jr Qeg [own.ochan.toNat]) (QcQ ⟨st,own.ordered,(Yd s own.conn).oconn,back,0,0,0⟩) z
theorem Qe2 {i:Int} (h:Qax s i=0):(0≤i∧i<(s.conns.length:Int))∧(Yd s i).state=3∧0≤(Yd s i).oconn∧ZO s (Yd s i).client=0:=by grind [Qax]
theorem ZU {i:Int} (h:Je s i=0):Qd s=0∧Qax s i=0:=by grind [Je]
theorem Q2 {i st:Int} (h:Jt s i st=0):Qd s=0∧(0≤i∧i<(s.chans.length:Int))∧(Qx s i).state=st∧Qax s (Qx s i).conn=0:=by grind [Jt]
structure Pk where
 src:Int
 dst:Int
 seq:Int
 data:Bg
 tmo:Int
def Pk.none:Pk:=⟨0,0,0,[],0⟩
def Pk.fits (p:Pk):Prop:=p.data.length≤140737488351232
variable {p:Pk}
def PkV (w:World) (N:Nat) (v:Value) (p:Pk):Prop:=∃ dv,v=.agg #[Bb p.src,Bb p.dst,Bb p.seq,dv,Bb p.tmo]∧Bytes w N dv p.data
theorem PkV.below (h:PkV w N v p) (hg:Below N w w'):PkV w' N v p:=by
 obtain ⟨d,e,h⟩:=h;exact ⟨d,e,h.below hg⟩
theorem PkV.mono (h:PkV w N v p) (hN:N≤g):PkV w g v p:=by
 obtain ⟨d,e,h⟩:=h;exact ⟨d,e,h.mono hN⟩
theorem PkV.open (h:PkV w N v p):∃ od cd,v=.agg #[Bb p.src,Bb p.dst,Bb p.seq,.slice od p.data.length cd,Bb p.tmo]∧Bytes w N (.slice od p.data.length cd) p.data:=by grind [PkV,Bytes]
theorem Ql7 (w:World) (N:Nat):PkV w N (.agg #[Bb 0,Bb 0,Bb 0,Bc,Bb 0]) Pk.none:=⟨_,rfl,.inl ⟨rfl,rfl⟩⟩
def QA (p:Pk):Int:=if (Qs 0 p.src && (Qs 0 p.dst && (Qs 1 p.seq && Qs 1 p.tmo)))=false then 3 else if 150<p.data.length then 4 else 0
theorem YY (h:QA p=0):(0≤p.src∧p.src≤1000000000000)∧(0≤p.dst∧p.dst≤1000000000000)∧(1≤p.seq∧p.seq≤1000000000000)∧(1≤p.tmo∧p.tmo≤1000000000000)∧p.data.length≤150:=by grind [QA,Q6]
def QhQ (p:Pk):List Pc:=[ZQ p.src,ZQ p.dst,ZQ p.seq,⟨2,0,p.data⟩,ZQ p.tmo]
def pkB (p:Pk):Bg:=Zd 5 ++ wrs (QhQ p)
def Jd (p:Pk):Bg:=sha (pkB p)
theorem QvU (h:QA p=0):YA (QhQ p)=.ok (pkB p)∧(pkB p).length≤400∧∀ x∈QhQ p,x.fits:=by
 obtain ⟨h1,h2,h3,h4,h5⟩:=YY h;have n1:=Q4 p.src.toNat (by omega)
 have n2:=Q4 p.dst.toNat (by omega)
 have n3:=Q4 p.seq.toNat (by omega)
 have n4:=Q4 p.tmo.toNat (by omega)
 have n5:=Q4 p.data.length (by omega)
 have n6:=Q4 5 (by omega)
 have hl:(pkB p).length≤400:=by
  unfold pkB;simp [wrs,QhQ,ZQ,Pc.wr];omega
 refine ⟨?_,hl,?_⟩
 ·unfold YA
  exact Qfr _ _ _ (fun x hx=>by simp [QhQ,ZQ] at hx;rcases hx with rfl | rfl | rfl | rfl | rfl <;> simp) (by have:=hl;unfold pkB at this;simp [QhQ] at this ⊢;omega)
 ·intro x hx
  simp [QhQ,ZQ] at hx
  rcases hx with rfl | rfl | rfl | rfl | rfl <;> (refine ⟨?_,?_⟩ <;> simp [Pc.ok] <;> omega)
def Ja (s:St) (i:Int) (l:List Int):Int:=if Qd s≠0 then Qd s else if i<0∨(s.chans.length:Int)≤i then 6 else if (Qx s i).state∈l then Qax s (Qx s i).conn else 12
theorem Yn {i:Int} {l:List Int} (h:Ja s i l=0):Qd s=0∧(0≤i∧i<(s.chans.length:Int))∧(Qx s i).state∈l∧Qax s (Qx s i).conn=0:=by grind [Ja]
def Qbk (s:St) (i:Int):Cl:=Qiy s (Yd s (Qx s i).conn).client
theorem YZ {i:Int} {l:List Int} (h:Ja s i l=0):∃ (j k m:Nat) (c:Ch) (d:Cn) (f:Cl),i=(j:Int)∧s.chans[j]?=some c∧Qx s i=c∧c.conn=(k:Int)∧s.conns[k]?=some d∧d.client=(m:Int)∧s.clients[m]?=some f∧Qbk s i=f∧Q0 c=0∧Qz f=0∧YJ f s.time=true:=by
 obtain ⟨hw,hi,hm,ho⟩:=Yn h;obtain ⟨hc,-,-,hl⟩:=Qe2 ho;have z:=Qak hl;obtain ⟨j,rfl⟩:∃ j:Nat,i=(j:Int):=⟨i.toNat,by omega⟩
 obtain ⟨c,hj⟩:∃ c,s.chans[j]?=some c:=⟨_,Bk (by omega)⟩
 have b:=Yo hj;rw [b] at hc z hl;obtain ⟨k,hk⟩:∃ k:Nat,c.conn=(k:Int):=⟨c.conn.toNat,by omega⟩
 obtain ⟨d,hd⟩:∃ d,s.conns[k]?=some d:=⟨_,Bk (by omega)⟩
 rw [hk,Yp hd] at z hl;obtain ⟨m,q⟩:∃ m:Nat,d.client=(m:Int):=⟨d.client.toNat,by omega⟩
 obtain ⟨f,hf⟩:∃ f,s.clients[m]?=some f:=⟨_,Bk (by omega)⟩
 refine ⟨j,k,m,c,d,f,rfl,hj,b,hk,hd,q,hf,?_,(QD hw).chans c (Bn hj),QbE hw f (Bn hf),?_⟩
 ·unfold Qbk
  rw [b,hk,Yp hd,q,QaM hf]
 ·rw [q,QlU hf] at hl
  cases e:YJ f s.time with
  | true=>rfl
  | false=>rw [e,if_pos rfl] at hl;cases hl
def Y4 (ch seq:Int) (m:Mk):Bool:=decide (m.chan=ch∧m.seq=seq)
def ZM (l:List Mk) (ch seq:Int):Option Mk:=l.find? (Y4 ch seq)
def QY (l:List Mk) (ch seq:Int):List Mk:=l.filter fun m=>!Y4 ch seq m
def QX (l:List Mk) (x:Mk):List Mk:=l.filter (fun m=>Qv m x) ++ x :: l.filter (fun m=>Qv x m)
abbrev QaQ (l:List Mk):Prop:=l.Pairwise fun a b=>Qv a b=true
theorem QeV {a b:Mk} (h:Qv a b=true):Qv b a=false:=by grind [Qv]
theorem Ql0 (ch seq:Int) (m:Mk):Y4 ch seq m=true↔m.chan=ch∧m.seq=seq:=by simp [Y4]
theorem Qsa (a x:Mk):Qv a x=true∨Y4 x.chan x.seq a=true∨Qv x a=true:=by simp [Qv,Y4];omega
def Yh (l:List Mk) (ch seq:Int):Nat:=(l.filter fun m=>Qv m ⟨ch,seq,[]⟩).length
theorem Qcm:∀ (l:List Mk) (x:Mk),QaQ l→l=l.filter (fun m=>Qv m x) ++ (l.filter (fun m=>Y4 x.chan x.seq m) ++ l.filter (fun m=>Qv x m))∧(l.filter fun m=>Y4 x.chan x.seq m).length≤1
 | [],x,_=>by simp
 | a :: l,x,h=>by
  obtain ⟨h1,h2⟩:=CN.1 h;obtain ⟨ih,il⟩:=Qcm l x h2
  rcases Qsa a x with e | e | e
  ·have e2:Qv x a=false:=QeV e
   have e3:Y4 x.chan x.seq a=false:=by simp [Qv,Y4] at e ⊢;omega
   simp only [D6,e,e2,e3,if_true,DS,if_false];refine ⟨?_,il⟩;rw [By,← ih]
  ·have e2:Qv a x=false:=by simp [Qv,Y4] at e ⊢;omega
   have e3:Qv x a=false:=by simp [Qv,Y4] at e ⊢;omega
   have k1:l.filter (fun m=>Qv m x)=[]:=Cp.2 fun m hm=>by have:=h1 m hm;simp [Qv,Y4] at e this ⊢;omega
   have k2:l.filter (fun m=>Y4 x.chan x.seq m)=[]:=Cp.2 fun m hm=>by have:=h1 m hm;simp [Qv,Y4] at e this ⊢;omega
   simp only [D6,e,e2,e3,if_true,DS,if_false];rw [k1,k2] at ih ⊢;refine ⟨?_,by simp⟩
   simp only [Bv,By] at ih ⊢;rw [← ih]
  ·have e2:Qv a x=false:=QeV e
   have e3:Y4 x.chan x.seq a=false:=by simp [Qv,Y4] at e ⊢;omega
   have k1:l.filter (fun m=>Qv m x)=[]:=Cp.2 fun m hm=>by have:=h1 m hm;simp [Qv] at e this ⊢;omega
   have k2:l.filter (fun m=>Y4 x.chan x.seq m)=[]:=Cp.2 fun m hm=>by have:=h1 m hm;simp [Qv,Y4] at e this ⊢;omega
   simp only [D6,e,e2,e3,if_true,DS,if_false];rw [k1,k2] at ih ⊢;refine ⟨?_,by simp⟩
   simp only [Bv] at ih ⊢;rw [← ih]
theorem QtX (l:List Mk) (ch seq:Int):ZM l ch seq=(l.filter (Y4 ch seq)).head?:=by grind [ZM]
theorem QtY {l:List Mk} {seq:Int} {m:Mk} (h:ZM l ch seq=some m):m∈l∧m.chan=ch∧m.seq=seq:=by grind [ZM,Ql0]
theorem QfB {l:List Mk} {seq:Int} (h:ZM l ch seq=none):∀ m∈l,¬ (m.chan=ch∧m.seq=seq):=by grind [ZM,Ql0]
theorem Qe5 {l:List Mk} {x:Mk} (h:QaQ l) {m:Mk} (hm:ZM l x.chan x.seq=some m):l[Yh l x.chan x.seq]?=some m∧l.set (Yh l x.chan x.seq) x=QX l x∧l.take (Yh l x.chan x.seq) ++ l.drop (Yh l x.chan x.seq+1)=QY l x.chan x.seq:=by
 obtain ⟨hp,hl⟩:=Qcm l x h;rw [QtX] at hm
 have he:l.filter (fun m=>Y4 x.chan x.seq m)=[m]:=by
  cases hf:l.filter (fun m=>Y4 x.chan x.seq m) with
  | nil=>rw [show l.filter (Y4 x.chan x.seq)=[] from hf] at hm;cases hm
  | cons a r =>
   rw [hf] at hl;have hr:r=[]:=CE.1 (by simp at hl;exact CE.2 hl)
   rw [show l.filter (Y4 x.chan x.seq)=a :: r from hf] at hm;simp at hm;rw [hr,hm]
 rw [he] at hp;have d:Yh l x.chan x.seq=(l.filter fun m=>Qv m x).length:=rfl
 have hw:QY l x.chan x.seq=l.filter (fun m=>Qv m x) ++ l.filter (fun m=>Qv x m):=by
  unfold QY
  have b:Y4 x.chan x.seq m=true:=by
   have:m∈l.filter (fun m=>Y4 x.chan x.seq m):=by rw [he];simp
   exact (Cf.1 this).2
  conv=>lhs;rw [hp]
  rw [DQ,DQ];have k1:(l.filter (fun m=>Qv m x)).filter (fun m=>!Y4 x.chan x.seq m)=l.filter (fun m=>Qv m x):=CT.2 fun a ha=>by have:=(Cf.1 ha).2;simp [Qv,Y4] at this ⊢;omega
  have k2:(l.filter (fun m=>Qv x m)).filter (fun m=>!Y4 x.chan x.seq m)=l.filter (fun m=>Qv x m):=CT.2 fun a ha=>by have:=(Cf.1 ha).2;simp [Qv,Y4] at this ⊢;omega
  rw [k1,k2];simp [b]
 generalize hA:l.filter (fun m=>Qv m x)=A at *
 generalize hB:l.filter (fun m=>Qv x m)=B at *
 rw [d];refine ⟨?_,?_,?_⟩
 ·rw [hp];simp
 ·unfold QX
  rw [hA,hB]
  conv=>lhs;rw [hp]
  rw [Dd _ _ (Bj _)];simp
 ·rw [hw]
  conv=>lhs;rw [hp]
  simp
theorem Qst {l:List Mk} {x:Mk} (h:QaQ l) (hm:ZM l x.chan x.seq=none):l.take (Yh l x.chan x.seq) ++ x :: l.drop (Yh l x.chan x.seq)=QX l x∧QY l x.chan x.seq=l:=by
 obtain ⟨hp,hl⟩:=Qcm l x h;have he:l.filter (fun m=>Y4 x.chan x.seq m)=[]:=Cp.2 fun m b=>by have:=QfB hm m b;simpa [Y4] using this
 rw [he] at hp;have d:Yh l x.chan x.seq=(l.filter fun m=>Qv m x).length:=rfl
 refine ⟨?_,CT.2 fun m b=>by have:=QfB hm m b;rw [show Y4 x.chan x.seq m=false from BC this];rfl⟩
 unfold QX;generalize hA:l.filter (fun m=>Qv m x)=A at *
 generalize hB:l.filter (fun m=>Qv x m)=B at *
 rw [d];rw [hp];simp
theorem Qss (l:List Mk) (ch seq:Int):Yh l ch seq≤l.length:=by grind [Yh]
theorem QqQ {l:List Mk} {x m:Mk} (h:m∈QX l x):m=x∨m∈l:=by grind [QX]
theorem Qom {l:List Mk} {x:Mk} (h:QaQ l):QaQ (QX l x):=by
 refine D3.2 ⟨h.filter _,CN.2 ⟨fun m hm=>(Cf.1 hm).2,h.filter _⟩,fun a ha b hb=>?_⟩
 have h1:=(Cf.1 ha).2
 rcases Bo.1 hb with rfl | hb
 ·omega
 ·exact Qcd h1 (Cf.1 hb).2
theorem QqP (l:List Mk) (x:Mk):ZM (QX l x) x.chan x.seq=some x:=by grind [ZM,QX,Qv,Y4]
theorem Qk0 (l:List Mk) (ch seq:Int):ZM (QY l ch seq) ch seq=none:=by grind [ZM,QY]
theorem QfS (l:List Mk) (x:Mk) (h:QaQ l):l.length≤(QX l x).length∧(QX l x).length≤l.length+1:=by
 obtain ⟨hp,hl⟩:=Qcm l x h;have h1:=Bl List.length hp;unfold QX;simp only [Bs,Cy] at h1 ⊢;omega
theorem Qk1 (l:List Mk) (ch seq:Int):(QY l ch seq).length≤l.length:=List.length_filter_le _ _
theorem QuA {l:List Mk}:∀ (p:Option Mk),(∀ m∈l,JT m=0)→QaQ l→(∀ a,p=some a→∀ m∈l,Qv a m=true)→Qdg JT Qv p l=0:=by
 induction l with
 | nil=>intros;rfl
 | cons x l ih =>
  intro p h1 h2 h3;obtain ⟨g1,g2⟩:=CN.1 h2;rw [Qdg,if_neg (by simp [h1 x List.mem_cons_self])]
  have:QaB Qv p x=true:=by
   cases p with
   | none=>rfl
   | some a=>exact h3 a rfl x Cj
  rw [this,if_neg (by simp)]
  exact ih (some x) (fun m hm=>h1 m (Cr _ hm)) g2 (fun a ha m hm=>by cases ha;exact g1 m hm)
theorem QjA {l:List Mk} (h1:∀ m∈l,JT m=0) (h2:QaQ l):QP l=0:=QuA none h1 h2 (fun _ h=>by cases h)
theorem Qdi {l:List Mk} {x:Mk} (h:QP l=0) (hx:JT x=0):QP (QX l x)=0:=by grind [Y3,QjA,QqQ,Qom]
theorem Qil {l:List Mk} {seq:Int} (h:QP l=0):QP (QY l ch seq)=0:=by grind [QY,Y3,QjA]
def QeT (c:Cl):Int:=match c.known.getLast? with
 | some k=>k.height
 | none=>0
def Jv (s:St) (i:Int) (data:Bg) (tmo:Int):Pk:=⟨i,(Qx s i).ochan,(Qx s i).send,data,tmo⟩
def QiK (s:St) (p:Pk) (last send:Int):Int:=if QA p≠0 then QA p else if p.tmo≤last then 11 else if 50≤s.sent.length∨1000000000000≤send then 5 else 0
def YN (s:St) (i:Int) (data:Bg) (tmo:Int):Int:=if Ja s i [3]≠0 then Ja s i [3] else QiK s (Jv s i data tmo) (QeT (Qbk s i)) (Qx s i).send
def Ch.sent1 (c:Ch):Ch:=⟨c.state,c.ordered,c.conn,c.ochan,c.send+1,c.recv,c.ack⟩
def Ch.recv1 (c:Ch):Ch:=⟨c.state,c.ordered,c.conn,c.ochan,c.send,c.recv+1,c.ack⟩
def Ch.ack1 (c:Ch):Ch:=⟨c.state,c.ordered,c.conn,c.ochan,c.send,c.recv,c.ack+1⟩
def Ch.shut (c:Ch):Ch:=⟨4,c.ordered,c.conn,c.ochan,c.send,c.recv,c.ack⟩
def QbS (s:St) (i:Int) (c:Ch):St:={ s with chans:=s.chans.set i.toNat c }
def Qc9 (s:St) (p:Pk):St:={ QbS s p.src (Qx s p.src).sent1 with sent:=QX s.sent ⟨p.src,p.seq,Jd p⟩ }
def Qh4 (s:St) (i:Int) (data:Bg) (tmo:Int):St:=if YN s i data tmo=0 then Qc9 s (Jv s i data tmo) else St.none
def Qh3 (s:St) (i:Int) (data:Bg) (tmo:Int):Pk:=if YN s i data tmo=0 then Jv s i data tmo else Pk.none
def QcA (s:St) (c:Ch) (p:Pk):Bool:=if c.ordered=true then decide (p.seq≠c.recv) else (ZM s.got p.dst p.seq).isSome
def YT (s:St) (p:Pk) (n:Nat):Int:=if QA p≠0 then QA p else if Ja s p.dst [3]≠0 then Ja s p.dst [3] else if (Qx s p.dst).ochan≠p.src then 8 else if p.tmo≤s.height then 11
 else if QcA s (Qx s p.dst) p=true then 12 else if (50≤s.got.length∨50≤s.acks.length)∨150<n∨1000000000000≤(Qx s p.dst).recv then 5 else 0
def Qay (s:St) (p:Pk) (n:Nat) (z:Int):Int:=if YT s p n≠0 then YT s p n else z
def QeB (s:St) (p:Pk) (h:Sh) (z:Int):Prop:=QT (Qbk s p.dst) s.time h.height (fun r=>h.prf.key=Jr QhA [p.src.toNat,p.seq.toNat]∧h.prf.val=Jd p∧JX r h.prf) z
def QcE (s:St) (p:Pk) (ack:Bg):St:={ (if (Qx s p.dst).ordered=true then QbS s p.dst (Qx s p.dst).recv1 else { s with got:=QX s.got ⟨p.dst,p.seq,Jd p⟩ }) with acks:=QX s.acks ⟨p.dst,p.seq,sha ack⟩ }
def Qge (s:St) (p:Pk) (ack:Bg) (z:Int):St:=if Qay s p ack.length z=0 then QcE s p ack else St.none
def Jg (s:St) (p:Pk):Int:=if QA p≠0 then QA p else if Ja s p.src [3,4]≠0 then Ja s p.src [3,4] else if (Qx s p.src).ochan≠p.dst then 8 else match ZM s.sent p.src p.seq with
 | none=>6
 | some m=>if m.dig≠Jd p then 8 else 0
def QdL (c:Ch) (p:Pk) (n:Nat) (z:Int):Int:=if 150<n then 4 else if c.ordered=true∧p.seq≠c.ack then 12 else if c.ordered=true∧1000000000000≤c.ack then 5 else z
def Zq (s:St) (p:Pk) (n:Nat) (z:Int):Int:=if Jg s p≠0 then Jg s p else QdL (Qx s p.src) p n z
def QgC (s:St) (p:Pk) (ack:Bg) (h:Sh) (z:Int):Prop:=QT (Qbk s p.src) s.time h.height (fun r=>h.prf.key=Jr Qhy [p.dst.toNat,p.seq.toNat]∧h.prf.val=sha ack∧JX r h.prf) z
def QhB (c:Ch) (p:Pk) (next:Int) (height z:Int):Int:=if height<p.tmo then 11 else if c.ordered=true∧(next<1∨p.seq<next) then 12 else z
def ZC (s:St) (p:Pk) (next:Int) (height z:Int):Int:=if Jg s p≠0 then Jg s p else QhB (Qx s p.src) p next height z
def Qdp (s:St) (p:Pk) (next:Int) (h:Sh) (z:Int):Prop:=if (Qx s p.src).ordered=true then QT (Qbk s p.src) s.time h.height (fun r=>h.prf.key=Jr Qeh [p.dst.toNat]∧h.prf.val=ZF [next]∧JX r h.prf) z
 else QT (Qbk s p.src) s.time h.height (fun r=>QaA r (Jr Qhz [p.dst.toNat,p.seq.toNat]) h.gap) z
def JA (s:St) (p:Pk) (c:Ch):St:={ (if (Qx s p.src).ordered=true then QbS s p.src c else s) with sent:=QY s.sent p.src p.seq }
def Zr (s:St) (p:Pk) (n:Nat) (z:Int):St:=if Zq s p n z=0 then JA s p (Qx s p.src).ack1 else St.none
def ZD (s:St) (p:Pk) (next height z:Int):St:=if ZC s p next height z=0 then JA s p (Qx s p.src).shut else St.none
def JV (N base:Nat) (w:World) (v:Value) (p:Pk):Prop:=QM (fun b=>(b<N∨base≤b)∧b<w.heap.size) w (fun w2=>PkV w2 w2.heap.size v p)
theorem Jp (N base:Nat) (w:World):JV N base w (.agg #[Bb 0,Bb 0,Bb 0,Bc,Bb 0]) Pk.none:=⟨fun _ h=>h.2,fun w2 _ _=>Ql7 w2 _⟩
end Go.Proofs.YtnedafiokmjkkaaGreatDoor
