/-
  Rows of records of one type that a call owns: appended to, inserted into, deleted from. (Made by rec/mkrec.py.)
  Plain mathematics of clients: what is wrong with them, what they know, believe and learn. No function of the program is named here.
  Plain mathematics of the laws of clients: what is followed twice, by way of another block, or voted for. No function of the program is named here.
  What clients know, in memory: records of four cells behind a slice value; clients and updates as values; rows of what is known that a call owns. No function of the program is named here.
-/
import Derived.Test.YtbgdpfeobklnhaaGreatDoorcvHdMems
import Derived.Test.YtbgdpfeobklnhaaGreatDoorcvMemB
namespace Go.Proofs.YtbgdpfeobklnhaaGreatDoor
open Go.RowKit
theorem Qj7:(Tryz.prog.info? 114).map (fun i=>(i.zero,i.size,i.bytes))=some (some (.agg #[.int .i64 0,.int .i64 0,.slice none 0 0,.slice none 0 0]),4,64):=by kernel_rfl
def QiA (r:List Value):Prop:=r.length=4∧∀ x∈r,x.oneCell'=true
def JN (w:World) (base:Nat) (v:Value) (rs:List (List Value)):Prop:=(∀ r∈rs,QiA r)∧w.ownsRow base 114 4 v rs.length rs.flatten
theorem JN.nil (w:World) (base:Nat):JN w base (.slice none 0 0) []:=⟨fun _ h=>(by cases h),World.ownsRow_nil w base 114 4⟩
theorem JN.shape {w:World} {base:Nat} {v:Value} {rs:List (List Value)} (h:JN w base v rs):∃ oa cap,v=.slice oa rs.length cap∧rs.length≤cap:=by
 obtain ⟨_,_,h2⟩:=h
 rcases h2 with ⟨h3,h4⟩ | ⟨g,cap,cur,h3,_,_,h4,_⟩
 ·exact ⟨none,0,by rw [h4];exact h3,by omega⟩
 ·exact ⟨_,cap,h3,h4⟩
theorem JN.below {w w':World} {base:Nat} {v:Value} {rs:List (List Value)} (h:JN w base v rs) (hg:Below w.heap.size w w'):JN w' base v rs:=⟨h.1,Jk h.2 hg⟩
theorem JN.mono {w:World} {base base':Nat} {v:Value} {rs:List (List Value)} (h:JN w base v rs) (hb:base'≤base):JN w base' v rs:=by
 obtain ⟨h0,h1,h2⟩:=h
 refine ⟨h0,h1,?_⟩
 rcases h2 with h2 | ⟨g,cap,cur,h3,h4,h5⟩
 ·exact .inl h2
 ·exact .inr ⟨g,cap,cur,h3,Nat.le_trans hb h4,h5⟩
theorem JN.recs {w:World} {base:Nat} {v:Value} {rs:List (List Value)} (h:JN w base v rs):JF w w.heap.size v 4 rs:=QbH h.2 (fun r hr=>(h.1 r hr).1)
theorem QcS {rs:List (List Value)} (h:∀ r∈rs,QiA r):rs.flatten.length=rs.length*4:=YM rs (fun r hr=>(h r hr).1)
theorem JN.row {w:World} {base:Nat} {v:Value} {rs:List (List Value)} (h:JN w base v rs) (h0:0<rs.length):∃ g c cs,v=.slice (some ⟨g,0,none⟩) rs.length c∧base≤g∧Row w g 114 cs∧rs.length≤c∧c≤maxLen∧cs.length=c*4∧cs.take (rs.length*4)=rs.flatten:=by
 obtain ⟨_,h1,h2⟩:=h
 rcases h2 with ⟨_,h3⟩ | ⟨g,c,cur,h3,h4,h5,h6,h7,h8,h9⟩
 ·omega
 ·exact ⟨g,c,cur.toList,h3,h4,h5,h6,h7,by simpa using h8,h9⟩
theorem JN.of_row {w:World} {base g n c:Nat} {cs:List Value} {rs:List (List Value)} (hok:∀ r∈rs,QiA r) (hb:base≤g) (hr:Row w g 114 cs) (hn:n=rs.length) (hc:n≤c) (hm:c≤maxLen) (hl:cs.length=c*4) (ht:cs.take (n*4)=rs.flatten):JN w base (.slice (some ⟨g,0,none⟩) n c) rs:=by
 subst hn
 exact ⟨hok,QcS hok,.inr ⟨g,c,cs.toArray,rfl,hb,hr,hc,hm,by simpa using hl,ht⟩⟩
theorem JN.apart {w:World} {base g:Nat} {v:Value} {rs:List (List Value)} {t:TypeId} {cs:List Value} (h:JN w base v rs) (hr:Row w g t cs) (ht:t≠114):some g≠v.ownBlock:=by
 intro he
 rcases h.2.2 with ⟨rfl,_⟩ | ⟨g',c',cur',rfl,_,h8,_⟩
 ·simp [Value.ownBlock] at he
 ·obtain rfl:g=g':=by simpa [Value.ownBlock] using he
  unfold Row at hr
  rw [hr] at h8
  simp at h8
  exact ht h8.2
theorem JN.past {w w':World} {base b e k n:Nat} {v rv:Value} {xs:List Value} {rs:List (List Value)} (hr:JN w base rv rs) (he:e≠114) (h:w.ownsRow b e k v n xs) (hg:w.grownBy w' rv.ownBlock):w'.ownsRow b e k v n xs:=by
 obtain ⟨h1,h2⟩:=h
 refine ⟨h1,?_⟩
 rcases h2 with h2 | ⟨g,cap,cur,h3,h4,h5,h6⟩
 ·exact .inl h2
 ·refine .inr ⟨g,cap,cur,h3,h4,(hg.block g (Array.getElem?_eq_some_iff.1 h5).1 ?_).trans h5,h6⟩
  intro hq
  rcases hr.2.2 with ⟨rfl,_⟩ | ⟨g',c',cur',rfl,_,h8,_⟩
  ·simp [Value.ownBlock] at hq
  ·obtain rfl:g=g':=by simpa [Value.ownBlock] using hq
   rw [h5] at h8
   simp at h8
   exact he h8.2
structure Kn where
 height:Int
 time:Int
 root:List (BitVec 8)
 next:List (BitVec 8)
structure Cl where
 chain:ByteArray
 trust:Int
 frozen:Bool
 known:List Kn
def Kn.none:Kn:=⟨0,0,[],[]⟩
def Cl.none:Cl:=⟨⟨#[]⟩,0,false,[]⟩
def Kn.fits (k:Kn):Prop:=k.root.length≤140737488351232∧k.next.length≤140737488351232
def Cl.fits (c:Cl):Prop:=c.chain.size≤140737488351232∧c.known.length<2305843009213693952∧∀ k∈c.known,k.fits
def Jc (k:Kn):Int:=if k.height<1∨1000000000000<k.height∨k.time<0∨1000000000000<k.time then 3 else if k.root.length≠32∨k.next.length≠32 then 2 else 0
theorem Qdr (k:Kn):Jc k=0↔(1≤k.height∧k.height≤1000000000000∧0≤k.time∧k.time≤1000000000000)∧k.root.length=32∧k.next.length=32:=by
 unfold Jc
 split
 ·constructor
  ·intro h;cases h
  ·intro h;omega
 ·split
  ·constructor
   ·intro h;cases h
   ·intro h;omega
  ·constructor
   ·intro _;omega
   ·intro _;rfl
theorem Qdq {k:Kn} (h:k.height<1∨1000000000000<k.height∨k.time<0∨1000000000000<k.time):Jc k=3:=by unfold Jc;rw [if_pos h]
theorem Qaa {k:Kn} (h:¬ (k.height<1∨1000000000000<k.height∨k.time<0∨1000000000000<k.time)) (h2:k.root.length≠32∨k.next.length≠32):Jc k=2:=by unfold Jc;rw [if_neg h,if_pos h2]
theorem QfL {k:Kn} (h:¬ (k.height<1∨1000000000000<k.height∨k.time<0∨1000000000000<k.time)) (h2:¬ (k.root.length≠32∨k.next.length≠32)):Jc k=0:=by unfold Jc;rw [if_neg h,if_neg h2]
def Zn:Option Int→Int→Bool
 | none,_=>false
 | some k,x=>decide (x≤k)
def QaB (p:Option Int):List Kn→Int
 | []=>0
 | k :: r=>if Jc k≠0 then Jc k else if Zn p k.height=true then 2 else QaB (some k.height) r
def Yf (l:List Kn) (j:Nat):Option Int:=if j=0 then none else (l[j-1]?).map (·.height)
theorem Qcj (l:List Kn):Yf l 0=none:=rfl
theorem QaG (l:List Kn) (j:Nat) (y:Kn) (h:l[j]?=some y):Yf l (j+1)=some y.height:=by simp [Yf,h]
theorem QgT (l:List Kn) (j:Nat) (k:Kn) (h:l[j]?=some k):QaB (Yf l j) (l.drop j) =
  if Jc k≠0 then Jc k else if Zn (Yf l j) k.height=true then 2 else QaB (Yf l (j+1)) (l.drop (j+1)):=by
 obtain ⟨hk,rfl⟩:=List.getElem?_eq_some_iff.1 h
 rw [List.drop_eq_getElem_cons hk,QaB,QaG l j _ h]
theorem Qe3 (l:List Kn) (k:Nat) (h:l.length≤k):QaB (Yf l k) (l.drop k)=0:=by
 rw [List.drop_eq_nil_of_le h,QaB]
def QcB (l:List Kn):Prop:=l.Pairwise fun a b=>a.height<b.height
theorem QbC:∀ (l:List Kn) (p:Option Int),QaB p l=0↔(∀ k∈l,Jc k=0)∧(∀ h,p=some h→∀ k∈l,h<k.height)∧QcB l
 | [],_=>by simp [QaB,QcB]
 | k :: r,p=>by
  rw [QaB]
  constructor
  ·intro h
   split at h
   ·rename_i h1;exact absurd h h1
   ·rename_i h1
    split at h
    ·cases h
    ·rename_i h2
     obtain ⟨i1,i2,i3⟩:=(QbC r (some k.height)).1 h
     have i2':=i2 k.height rfl
     refine ⟨fun x hx=>?_,fun hh hp x hx=>?_,List.Pairwise.cons (fun x hx=>i2' x hx) i3⟩
     ·rcases List.mem_cons.1 hx with rfl | hx
      ·omega
      ·exact i1 x hx
     ·subst hp
      simp [Zn] at h2
      rcases List.mem_cons.1 hx with rfl | hx
      ·exact h2
      ·exact Int.lt_trans h2 (i2' x hx)
  ·rintro ⟨h1,h2,h3⟩
   have h1k:=h1 k List.mem_cons_self
   rw [if_neg (by omega),if_neg]
   ·refine (QbC r (some k.height)).2 ⟨fun x hx=>h1 x (List.mem_cons_of_mem _ hx),fun hh hp x hx=>?_,(List.pairwise_cons.1 h3).2⟩
    obtain rfl:k.height=hh:=by simpa using hp
    exact (List.pairwise_cons.1 h3).1 x hx
   ·cases p with
    | none=>simp [Zn]
    | some hh =>
     have:=h2 hh rfl k List.mem_cons_self
     simp [Zn]
     omega
def Qg (c:Cl):Int:=if JI c.chain=false then 7 else if c.trust<1∨1000000000000<c.trust then 3 else if c.known.length<1∨30<c.known.length then 5 else QaB none c.known
theorem QaR (c:Cl):Qg c=0↔JI c.chain=true∧(1≤c.trust∧c.trust≤1000000000000)∧(1≤c.known.length∧c.known.length≤30)∧(∀ k∈c.known,Jc k=0)∧QcB c.known:=by
 unfold Qg
 constructor
 ·intro h
  split at h
  ·cases h
  ·rename_i h1
   split at h
   ·cases h
   ·rename_i h2
    split at h
    ·cases h
    ·rename_i h3
     obtain ⟨i1,_,i3⟩:=(QbC _ _).1 h
     exact ⟨by simpa using h1,by omega,by omega,i1,i3⟩
 ·rintro ⟨h1,h2,h3,h4,h5⟩
  rw [if_neg (by simp [h1]),if_neg (by omega),if_neg (by omega)]
  exact (QbC _ _).2 ⟨h4,fun _ h=>(by cases h),h5⟩
theorem Qeb {c:Cl} (h:JI c.chain=false):Qg c=7:=by unfold Qg;rw [if_pos h]
theorem Qd9 {c:Cl} (h:JI c.chain=true) (h2:c.trust<1∨1000000000000<c.trust):Qg c=3:=by unfold Qg;rw [if_neg (by simp [h]),if_pos h2]
theorem Qea {c:Cl} (h:JI c.chain=true) (h2:¬ (c.trust<1∨1000000000000<c.trust)) (h3:c.known.length<1∨30<c.known.length):Qg c=5:=by unfold Qg;rw [if_neg (by simp [h]),if_neg h2,if_pos h3]
theorem Qdo {c:Cl} (h:JI c.chain=true) (h2:¬ (c.trust<1∨1000000000000<c.trust)) (h3:¬ (c.known.length<1∨30<c.known.length)):Qg c=QaB (Yf c.known 0) (c.known.drop 0):=by
 unfold Qg;rw [if_neg (by simp [h]),if_neg h2,if_neg h3];rfl
def atK (l:List Kn) (h:Int):Option Kn:=l.find? fun k=>decide (k.height=h)
theorem QeM {l:List Kn} {h:Int} {k:Kn} (e:atK l h=some k):k∈l∧k.height=h :=
 ⟨List.mem_of_find?_eq_some e,by have:=List.find?_some e;simpa using this⟩
theorem QcB.eq {l:List Kn} (h:QcB l) {a b:Kn} (ha:a∈l) (hb:b∈l) (e:a.height=b.height):a=b:=by
 induction l with
 | nil=>cases ha
 | cons x r ih =>
  obtain ⟨h1,h2⟩:=List.pairwise_cons.1 h
  rcases List.mem_cons.1 ha with ha' | ha'
  ·rcases List.mem_cons.1 hb with hb' | hb'
   ·rw [ha',hb']
   ·have:=h1 b hb';rw [← ha'] at this;omega
  ·rcases List.mem_cons.1 hb with hb' | hb'
   ·have:=h1 a ha';rw [← hb'] at this;omega
   ·exact ih h2 ha' hb'
theorem Qh5 {l:List Kn} {h:Int} (e:∀ k∈l,k.height≠h):atK l h=none:=List.find?_eq_none.2 fun k hk=>by simpa using e k hk
def QM (c:Cl) (now:Int):Bool:=!c.frozen && (match c.known.getLast? with
 | some k=>decide (now-k.time<c.trust)
 | none=>false)
def Jd (c:Cl) (now:Int):Int:=if Qg c≠0 then Qg c else if now<0∨1000000000000<now then 3 else if c.frozen=true then 12 else 0
theorem QaU {c:Cl} {now:Int} (h:Jd c now=0):Qg c=0∧(0≤now∧now≤1000000000000)∧c.frozen=false:=by
 unfold Jd at h
 split at h
 ·rename_i h1;exact absurd h h1
 ·rename_i h1
  split at h
  ·cases h
  ·rename_i h2
   split at h
   ·cases h
   ·rename_i h3
    exact ⟨by omega,by omega,by simpa using h3⟩
theorem QdR {c:Cl} {now:Int} (h1:Qg c=0) (h2:0≤now∧now≤1000000000000) (h3:c.frozen=false):Jd c now=0:=by
 unfold Jd
 rw [if_neg (by omega),if_neg (by omega),if_neg (by simp [h3])]
theorem Qa6 {c:Cl} {now:Int} (h1:Qg c=0) (h2:0≤now∧now≤1000000000000) (h3:c.frozen=true):Jd c now=12:=by
 unfold Jd
 rw [if_neg (by omega),if_neg (by omega),if_pos h3]
structure KnR where
 k:Kn
 r:Value
 n:Value
def YX (q:KnR):List Value:=[.int .i64 q.k.height,.int .i64 q.k.time,q.r,q.n]
def KnR.ok (w:World) (N:Nat) (q:KnR):Prop:=Bytes w N q.r q.k.root∧Bytes w N q.n q.k.next
theorem KnR.ok.below {w w':World} {N:Nat} {q:KnR} (h:q.ok w N) (hg:Below N w w'):q.ok w' N:=⟨h.1.below hg,h.2.below hg⟩
theorem KnR.ok.mono {w:World} {N M:Nat} {q:KnR} (h:q.ok w N) (hN:N≤M):q.ok w M:=⟨h.1.mono hN,h.2.mono hN⟩
theorem KnR.ok.row {w:World} {N:Nat} {q:KnR} (h:q.ok w N):QiA (YX q):=by
 obtain ⟨o1,c1,e1,_⟩:=h.1.shape
 obtain ⟨o2,c2,e2,_⟩:=h.2.shape
 refine ⟨rfl,fun x hx=>?_⟩
 simp [YX] at hx
 rcases hx with rfl | rfl | rfl | rfl
 ·rfl
 ·rfl
 ·rw [e1];rfl
 ·rw [e2];rfl
theorem Qb2 {ps:List KnR}:∀ r∈ps.map YX,r.length=4:=fun r hr=>by obtain ⟨_,_,rfl⟩:=List.mem_map.1 hr;rfl
def Js (w:World) (N:Nat) (sv:Value) (l:List Kn):Prop:=∃ ps:List KnR,ps.map (·.k)=l∧JF w N sv 4 (ps.map YX)∧∀ q∈ps,q.ok w N
theorem Js.below {w w':World} {N:Nat} {sv:Value} {l:List Kn} (h:Js w N sv l) (hg:Below N w w'):Js w' N sv l:=by
 obtain ⟨ps,h1,h2,h3⟩:=h
 exact ⟨ps,h1,h2.below hg,fun q hq=>(h3 q hq).below hg⟩
theorem Js.mono {w:World} {N M:Nat} {sv:Value} {l:List Kn} (h:Js w N sv l) (hN:N≤M):Js w M sv l:=by
 obtain ⟨ps,h1,h2,h3⟩:=h
 exact ⟨ps,h1,h2.mono hN,fun q hq=>(h3 q hq).mono hN⟩
theorem Js.shape {w:World} {N:Nat} {sv:Value} {l:List Kn} (h:Js w N sv l):∃ oa cap,sv=.slice oa l.length cap∧l.length≤cap:=by
 obtain ⟨ps,h1,h2,_⟩:=h
 obtain ⟨oa,cap,e1,e2⟩:=h2.shape
 have:(ps.map YX).length=l.length:=by rw [← h1];simp
 rw [this] at e1 e2
 exact ⟨oa,cap,e1,e2⟩
theorem Js.nil (w:World) (N:Nat):Js w N (.slice none 0 0) []:=⟨[],rfl,.inl ⟨rfl,rfl⟩,fun _ h=>by cases h⟩
theorem Js.spot {w:World} {N:Nat} {oa:Option Addr} {n cap:Nat} {l:List Kn} (h:Js w N (.slice oa n cap) l) (hl:0<n) :
  ∃ b off,oa=some ⟨b,off,none⟩∧∀ i k,l[i]?=some k→b<N∧∃ vr vn,w.cell? ⟨b,off+i*4,none⟩=some (.int .i64 k.height)∧w.cell? ⟨b,off+i*4+1,none⟩=some (.int .i64 k.time)∧w.cell? ⟨b,off+i*4+2,none⟩=some vr∧w.cell? ⟨b,off+i*4+3,none⟩=some vn∧Bytes w N vr k.root∧Bytes w N vn k.next:=by
 obtain ⟨ps,h1,h2,h3⟩:=h
 obtain ⟨b,off,e,hc⟩:=h2.spot hl
 refine ⟨b,off,e,fun i k hk=>?_⟩
 rw [← h1,List.getElem?_map] at hk
 obtain ⟨q,hq,rfl⟩:∃ q,ps[i]?=some q∧q.k=k:=by simpa using hk
 obtain ⟨g1,g2⟩:=hc i (YX q) (by rw [List.getElem?_map,hq];rfl)
 have hok:=h3 q (List.mem_of_getElem? hq)
 exact ⟨g1,q.r,q.n,g2 0 _ rfl,g2 1 _ rfl,g2 2 _ rfl,g2 3 _ rfl,hok.1,hok.2⟩
def KnV (w:World) (N:Nat) (v:Value) (k:Kn):Prop:=∃ rv nv,v=.agg #[.int .i64 k.height,.int .i64 k.time,rv,nv]∧Bytes w N rv k.root∧Bytes w N nv k.next
theorem KnV.below {w w':World} {N:Nat} {v:Value} {k:Kn} (h:KnV w N v k) (hg:Below N w w'):KnV w' N v k:=by
 obtain ⟨rv,nv,rfl,h1,h2⟩:=h
 exact ⟨rv,nv,rfl,h1.below hg,h2.below hg⟩
theorem KnV.mono {w:World} {N M:Nat} {v:Value} {k:Kn} (h:KnV w N v k) (hN:N≤M):KnV w M v k:=by
 obtain ⟨rv,nv,rfl,h1,h2⟩:=h
 exact ⟨rv,nv,rfl,h1.mono hN,h2.mono hN⟩
def ClV (w:World) (N:Nat) (v:Value) (c:Cl):Prop:=∃ kv,v=.agg #[.string c.chain,.int .i64 c.trust,.bool c.frozen,kv]∧Js w N kv c.known
theorem ClV.below {w w':World} {N:Nat} {v:Value} {c:Cl} (h:ClV w N v c) (hg:Below N w w'):ClV w' N v c:=by
 obtain ⟨kv,rfl,h1⟩:=h
 exact ⟨kv,rfl,h1.below hg⟩
theorem ClV.mono {w:World} {N M:Nat} {v:Value} {c:Cl} (h:ClV w N v c) (hN:N≤M):ClV w M v c:=by
 obtain ⟨kv,rfl,h1⟩:=h
 exact ⟨kv,rfl,h1.mono hN⟩
def JH (w:World) (base:Nat) (v:Value) (ps:List KnR):Prop:=JN w base v (ps.map YX)∧∀ q∈ps,Qq w base q.r q.k.root∧Qq w base q.n q.k.next
theorem JH.below {w w':World} {base:Nat} {v:Value} {ps:List KnR} (h:JH w base v ps) (hg:Below w.heap.size w w'):JH w' base v ps :=
 ⟨h.1.below hg,fun q hq=>⟨Jk (h.2 q hq).1 hg,Jk (h.2 q hq).2 hg⟩⟩
theorem JH.mono {w:World} {base base':Nat} {v:Value} {ps:List KnR} (h:JH w base v ps) (hb:base'≤base):JH w base' v ps:=⟨h.1.mono hb,fun q hq=>⟨(h.2 q hq).1.mono hb,(h.2 q hq).2.mono hb⟩⟩
theorem JH.shape {w:World} {base:Nat} {v:Value} {ps:List KnR} (h:JH w base v ps):∃ oa cap,v=.slice oa ps.length cap∧ps.length≤cap:=by
 obtain ⟨oa,cap,h1,h2⟩:=h.1.shape
 rw [List.length_map] at h1 h2
 exact ⟨oa,cap,h1,h2⟩
theorem JH.knowns {w:World} {base:Nat} {v:Value} {ps:List KnR} (h:JH w base v ps):Js w w.heap.size v (ps.map (·.k)):=⟨ps,rfl,h.1.recs,fun q hq=>⟨(h.2 q hq).1.bytes,(h.2 q hq).2.bytes⟩⟩
theorem JH.keep {w w':World} {base:Nat} {v:Value} {ps:List KnR} (h:JH w base v ps) (hk:∀ g,base≤g→w'.heap[g]?=w.heap[g]?):JH w' base v ps:=by
 refine ⟨⟨h.1.1,h.1.2.1,?_⟩,fun q hq=>⟨(h.2 q hq).1.keep hk,(h.2 q hq).2.keep hk⟩⟩
 rcases h.1.2.2 with h2 | ⟨g,cap,cur,h3,h4,h5,h6⟩
 ·exact .inl h2
 ·exact .inr ⟨g,cap,cur,h3,h4,(hk g h4).trans h5,h6⟩
theorem JH.past {w w':World} {base:Nat} {v v':Value} {ps ps':List KnR} (h:JH w base v ps) (hg:w.grownBy w' v.ownBlock) (hr:JN w' base v' (ps'.map YX)) (hm:∀ q∈ps',q∈ps∨(Qq w base q.r q.k.root∧Qq w base q.n q.k.next)):JH w' base v' ps':=by
 refine ⟨hr,fun q hq=>?_⟩
 have key:∀ q:KnR,Qq w base q.r q.k.root∧Qq w base q.n q.k.next→Qq w' base q.r q.k.root∧Qq w' base q.n q.k.next:=fun q h1=>⟨h.1.past (by decide) h1.1 hg,h.1.past (by decide) h1.2 hg⟩
 rcases hm q hq with h1 | h1
 ·exact key q (h.2 q h1)
 ·exact key q h1
def Qb7 (w:World) (g:Nat) (a b c d:Value):World:=(((w.setCell ⟨g,0,none⟩ a).setCell ⟨g,1,none⟩ b).setCell ⟨g,2,none⟩ c).setCell ⟨g,3,none⟩ d
theorem Zy {w:World} {g:Nat} {t:TypeId} {a0 b0 c0 d0:Value} (h:Row w g t [a0,b0,c0,d0]) (a b c d:Value):Row (Qb7 w g a b c d) g t [a,b,c,d]:=(((h.set 0 a).set 1 b).set 2 c).set 3 d
theorem Qdc (w:World) (g:Nat) (a b c d:Value):∀ k,k≠g→(Qb7 w g a b c d).heap[k]?=w.heap[k]?:=fun k hk=>by
 unfold Qb7
 rw [heap_setCell_other _ _ _ _ hk,heap_setCell_other _ _ _ _ hk,heap_setCell_other _ _ _ _ hk,heap_setCell_other _ _ _ _ hk]
theorem JV {B:Nat} {w0 w:World} (h:Below B w0 w) {g:Nat} (hg:B≤g) (a b c d:Value):Below B w0 (Qb7 w g a b c d):=(((h.setCell hg _).setCell hg _).setCell hg _).setCell hg _
theorem Row.four {w:World} {g:Nat} {t:TypeId} {a b c d:Value} (h:Row w g t [a,b,c,d]) :
  (w.cell? ⟨g,0,none⟩=some a∧w.cell? ⟨g,1,none⟩=some b∧w.cell? ⟨g,2,none⟩=some c∧w.cell? ⟨g,3,none⟩=some d)∧w.frozen? ⟨g,0,none⟩=false∧w.frozen? ⟨g,1,none⟩=false∧w.frozen? ⟨g,2,none⟩=false∧w.frozen? ⟨g,3,none⟩=false :=
 ⟨⟨h.cell 0,h.cell 1,h.cell 2,h.cell 3⟩,h.frozen 0,h.frozen 1,h.frozen 2,h.frozen 3⟩
theorem Qao {w:World} {g N:Nat} {a b c d v:Value} {l:List (BitVec 8)} (h:Bytes w N v l) (hg:N≤g):Bytes (Qb7 w g a b c d) (Qb7 w g a b c d).heap.size v l:=by
 have hb:=JV (Below.refl N w) hg a b c d
 have h1:=h.below hb
 rcases h1 with h1 | h1 | ⟨x,off,cap,e1,e2,e3⟩
 ·exact .inl h1
 ·exact .inr (.inl h1)
 ·exact .inr (.inr ⟨x,off,cap,e1,e2,fun i hi=>⟨block_lt_of_cell (e3 i hi).2,(e3 i hi).2⟩⟩)
end Go.Proofs.YtbgdpfeobklnhaaGreatDoor
