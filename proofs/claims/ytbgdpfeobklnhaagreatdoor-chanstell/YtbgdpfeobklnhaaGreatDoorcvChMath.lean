/-
  What comes of the steps of a channel.
-/
import Derived.Test.YtbgdpfeobklnhaaGreatDoorcvCoMath
namespace Go.Proofs.YtbgdpfeobklnhaaGreatDoor
open Go.RowKit
def QN (s:St) (i:Int):Ch:=(s.chans[i.toNat]?).getD ⟨0,false,0,0,0,0,0⟩
theorem Yk {s:St} {k:Nat} {x:Ch} (h:s.chans[k]?=some x):QN s (k:Int)=x:=by unfold QN;rw [Int.toNat_natCast,h];rfl
theorem QB.conn {w:World} {N k n cap:Nat} {oa:Option Addr} {l:List Cn} {x:Cn} (h:QB CnR 4 w N (.slice oa n cap) l) (hn:n=l.length) (hx:l[k]?=some x):∃ b f,oa=some ⟨b,f,none⟩∧b<N∧w.cell? ⟨b,f+k*4,none⟩=some (.int .i64 x.state)∧w.cell? ⟨b,f+k*4+1,none⟩=some (.int .i64 x.client)∧w.cell? ⟨b,f+k*4+2,none⟩=some (.int .i64 x.oclient)∧w.cell? ⟨b,f+k*4+3,none⟩=some (.int .i64 x.oconn):=by
 have:=(List.getElem?_eq_some_iff.1 hx).1
 obtain ⟨b,f,rfl,gx⟩:=h.spot (by omega)
 obtain ⟨hb,r,hr,cx⟩:=gx k x hx
 subst hr
 exact ⟨b,f,rfl,hb,cx 0 _ rfl,cx 1 _ rfl,cx 2 _ rfl,cx 3 _ rfl⟩
theorem QB.chan {w:World} {N k n cap:Nat} {oa:Option Addr} {l:List Ch} {x:Ch} (h:QB ChR 7 w N (.slice oa n cap) l) (hn:n=l.length) (hx:l[k]?=some x):∃ b f,oa=some ⟨b,f,none⟩∧b<N∧w.cell? ⟨b,f+k*7,none⟩=some (.int .i64 x.state)∧w.cell? ⟨b,f+k*7+1,none⟩=some (.bool x.ordered)∧w.cell? ⟨b,f+k*7+2,none⟩=some (.int .i64 x.conn)∧w.cell? ⟨b,f+k*7+3,none⟩=some (.int .i64 x.ochan)∧w.cell? ⟨b,f+k*7+4,none⟩=some (.int .i64 x.send)∧w.cell? ⟨b,f+k*7+5,none⟩=some (.int .i64 x.recv)∧w.cell? ⟨b,f+k*7+6,none⟩=some (.int .i64 x.ack):=by
 have:=(List.getElem?_eq_some_iff.1 hx).1
 obtain ⟨b,f,rfl,gx⟩:=h.spot (by omega)
 obtain ⟨hb,r,hr,cx⟩:=gx k x hx
 subst hr
 exact ⟨b,f,rfl,hb,cx 0 _ rfl,cx 1 _ rfl,cx 2 _ rfl,cx 3 _ rfl,cx 4 _ rfl,cx 5 _ rfl,cx 6 _ rfl⟩
def QI (s:St) (i:Int):Int:=if i<0∨(s.conns.length:Int)≤i then 6 else if (ZP s i).state≠3 then 12 else if (ZP s i).oconn<0 then 8 else YZ s (ZP s i).client
def QC (s:St) (i:Int):Int:=if Qk s≠0 then Qk s else QI s i
def QG (s:St) (i st:Int):Int:=if Qk s≠0 then Qk s else if i<0∨(s.chans.length:Int)≤i then 6 else if (QN s i).state≠st then 12 else QI s (QN s i).conn
def Jn (s:St):Int:=if 8≤s.chans.length then 5 else 0
def J3 (s:St) (i:Int):Int:=if QC s i≠0 then QC s i else Jn s
def Yl (s:St) (i o z:Int):Int:=if QC s i≠0 then QC s i else if Qn 0 o=false then 3 else if z≠0 then z else Jn s
def YV (s:St) (i o z:Int):Int:=if QG s i 1≠0 then QG s i 1 else if Qn 0 o=false then 3 else z
def QU (s:St) (i st z:Int):Int:=if QG s i st≠0 then QG s i st else if (QN s i).ochan<0 then 8 else z
def Qbr (s:St) (n:Int) (c:Ch):St:=if n=0 then { s with chans:=s.chans ++ [c] } else St.none
def J2 (s:St) (n:Int):Int:=if n=0 then (s.chans.length:Int) else 0
def Qas (s:St) (n i:Int) (c:Ch):St:=if n=0 then { s with chans:=s.chans.set i.toNat c } else St.none
def Qad (s:St) (i:Int) (o:Bool):St:=Qbr s (J3 s i) ⟨1,o,i,-1,1,1,1⟩
def ZZ (s:St) (i:Int) (o:Bool) (q z:Int):St:=Qbr s (Yl s i q z) ⟨2,o,i,q,1,1,1⟩
def Ch.turned (c:Ch) (st q:Int):Ch:=⟨st,c.ordered,c.conn,q,c.send,c.recv,c.ack⟩
def Zp (s:St) (i q z:Int):St:=Qas s (YV s i q z) i ((QN s i).turned 3 q)
def Q4 (s:St) (i st z e:Int):St:=Qas s (QU s i st z) i ((QN s i).turned e (QN s i).ochan)
def Zq (s:St) (i:Int):St:=Qas s (QG s i 3) i ((QN s i).turned 4 (QN s i).ochan)
def Ys (s:St) (own:Ch) (st Qcr:Int) (h:Sh) (z:Int):Prop:=JB s (ZP s own.conn).client h (Zd Yy [own.ochan.toNat]) (JC ⟨st,own.ordered,(ZP s own.conn).oconn,Qcr,0,0,0⟩) z
theorem Y0 {s:St} {i:Int} (h:QI s i=0):(0≤i∧i<(s.conns.length:Int))∧(ZP s i).state=3∧0≤(ZP s i).oconn∧YZ s (ZP s i).client=0:=by
 unfold QI at h
 split at h
 ·cases h
 split at h
 ·cases h
 split at h
 ·cases h
 rename_i h1 h2 h3
 exact ⟨by omega,by simpa using h2,by omega,h⟩
theorem YK {s:St} {i:Int} (h:QC s i=0):Qk s=0∧QI s i=0:=by
 unfold QC at h
 split at h
 ·rename_i h1;exact absurd h h1
 ·rename_i h1;exact ⟨by simpa using h1,h⟩
theorem Q2 {s:St} {i st:Int} (h:QG s i st=0):Qk s=0∧(0≤i∧i<(s.chans.length:Int))∧(QN s i).state=st∧QI s (QN s i).conn=0:=by
 unfold QG at h
 split at h
 ·rename_i h1;exact absurd h h1
 rename_i h1
 split at h
 ·cases h
 split at h
 ·cases h
 rename_i h2 h3
 exact ⟨by simpa using h1,by omega,by simpa using h3,h⟩
end Go.Proofs.YtbgdpfeobklnhaaGreatDoor
