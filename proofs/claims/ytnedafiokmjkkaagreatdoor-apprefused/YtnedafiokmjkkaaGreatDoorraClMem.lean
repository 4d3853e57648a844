/- Rows of records of one type that a call owns. -/
import Derived.Test.YtnedafiokmjkkaaGreatDoorraHdMems
namespace Go.Proofs.YtnedafiokmjkkaaGreatDoor
open Go.RowKit
variable {W w w':World} {c0 sv v v4:Value} {rs:List (List Value)} {B N g i k n:Nat} {cs r xs:List Value} {t:TypeId} {h:Int} {oa:Option Addr} {l:List (BitVec 8)}
theorem Qu5: (Tryz.prog.info? 31).map (fun i=>(i.zero,i.size,i.bytes))=some (some (.agg #[Bb 0,Bb 0,Bc,Bc]),4,64):=by kernel_rfl
def Qqf (r:List Value):Prop:=r.length=4∧∀ x∈r,x.oneCell'=true
def J3 (w:World) (base:Nat) (v:Value) (rs:List (List Value)):Prop:=(∀ r∈rs,Qqf r)∧w.ownsRow base 31 4 v rs.length rs.flatten
theorem J3.nil (w:World) (base:Nat):J3 w base (Bc) []:=⟨fun _ h=>(by cases h),Db w base 31 4⟩
theorem J3.shape {base:Nat} (h:J3 w base v rs):∃ oa b,v=.slice oa rs.length b∧rs.length≤b:=by
 obtain ⟨_,_,h2⟩:=h
 rcases h2 with ⟨h3,h4⟩ | ⟨g,b,cur,h3,_,_,h4,_⟩
 ·grind
 ·grind
theorem J3.below {base:Nat} (h:J3 w base v rs) (hg:Bd w w'):J3 w' base v rs:=⟨h.1,QU h.2 hg⟩
theorem J3.mono {base base':Nat} (h:J3 w base v rs) (hb:base'≤base):J3 w base' v rs:=by
 obtain ⟨h0,h1,h2⟩:=h;refine ⟨h0,h1,?_⟩
 rcases h2 with h2 | ⟨g,cap,cur,h3,h4,h5⟩
 ·grind
 ·exact .inr ⟨g,cap,cur,h3,Bh hb h4,h5⟩
theorem J3.recs {base:Nat} (h:J3 w base v rs):Q9 w w.heap.size v 4 rs:=Qe4 h.2 (fun r hr=>(h.1 r hr).1)
theorem Qho (h:∀ r∈rs,Qqf r):rs.flatten.length=rs.length*4:=YC rs (fun r hr=>(h r hr).1)
theorem J3.row {base:Nat} (h:J3 w base v rs) (h0:0<rs.length):∃ g c cs,v=.slice (some ⟨g,0,none⟩) rs.length c∧base≤g∧Row w g 31 cs∧rs.length≤c∧c≤maxLen∧cs.length=c*4∧cs.take (rs.length*4)=rs.flatten:=by
 obtain ⟨_,h1,h2⟩:=h
 rcases h2 with ⟨_,h3⟩ | ⟨g,c,b,h3,h4,h5,h6,h7,h8,h9⟩
 ·omega
 ·exact ⟨g,c,b.toList,h3,h4,h5,h6,h7,by simpa using h8,h9⟩
theorem J3.of_row {base c:Nat} (b:∀ r∈rs,Qqf r) (hb:base≤g) (hr:Row w g 31 cs) (hn:n=rs.length) (hc:n≤c) (hm:c≤maxLen) (hl:cs.length=c*4) (ht:cs.take (n*4)=rs.flatten):J3 w base (.slice (some ⟨g,0,none⟩) n c) rs:=by
 subst hn;exact ⟨b,Qho b,.inr ⟨g,c,cs.toArray,rfl,hb,hr,hc,hm,by simpa using hl,ht⟩⟩
theorem J3.apart {base:Nat} (h:J3 w base v rs) (hr:Row w g t cs) (ht:t≠31):some g≠v.ownBlock:=by
 intro he
 rcases h.2.2 with ⟨rfl,_⟩ | ⟨g',c',cur',rfl,_,h8,_⟩
 ·simp [Value.ownBlock] at he
 ·obtain rfl:g=g':=by simpa [Value.ownBlock] using he
  unfold Row at hr;rw [hr] at h8;simp at h8;exact ht h8.2
theorem J3.past {base b e:Nat} (hr:J3 w base v4 rs) (he:e≠31) (h:w.ownsRow b e k v n xs) (hg:w.grownBy w' v4.ownBlock):w'.ownsRow b e k v n xs:=by
 obtain ⟨h1,h2⟩:=h;refine ⟨h1,?_⟩
 rcases h2 with h2 | ⟨g,cap,cur,h3,h4,h5,h6⟩
 ·exact .inl h2
 ·refine .inr ⟨g,cap,cur,h3,h4,(hg.block g (BN.1 h5).1 ?_).trans h5,h6⟩
  intro hq
  rcases hr.2.2 with ⟨rfl,_⟩ | ⟨g',c',cur',rfl,_,h8,_⟩
  ·simp [Value.ownBlock] at hq
  ·obtain rfl:g=g':=by simpa [Value.ownBlock] using hq
   rw [h5] at h8;simp at h8;exact he h8.2
theorem QvR (h:Row W g 31 r):Q9 W (g+1) (.slice (some ⟨g,0,none⟩) 1 1) 4 [r]:=by
 refine .inr (.inr ⟨g,0,1,rfl,Bj _,fun i r' hr=>?_⟩)
 have hi:i=0:=by have:=(Bm.1 hr).1;simp at this;exact this
 subst hi;obtain rfl:r=r':=by simpa using hr
 refine ⟨by omega,fun j x hx=>?_⟩
 rw [h.cell,show 0+0*4+j=j by omega]
 exact hx
theorem Qky (rs:List (List Value)) (i:Nat) (q:List Value) (base vb:Nat) (v:Value) (w:World) (h:J3 w base v rs) (hb:base≤w.heap.size) (hv:Row w vb 31 q) (h1:Qqf q)
  (b:∀ g,v.ownBlock=some g→vb≠g) (hi:i≤rs.length) (hl:rs.length≤1000) :
  Calls Tryz.prog 187 #[v,Bb (i:Int),.slice (some ⟨vb,0,none⟩) 1 1] w fun e w'=>w.grownBy w' v.ownBlock∧∃ v',e=.returned v'∧J3 w' base v' (QcZ rs i q) :=
 (QoH.1 QsI Qso.1 rs i q base vb v w h hb hv (fun r hr=>by obtain rfl:=BO.1 hr;exact h1) b hi hl).mono (by rintro e w' ⟨h1,v',h2,h3,-⟩;exact ⟨h1,v',h2,h3⟩)
theorem Qkp (rs:List (List Value)) (i base:Nat) (v:Value) (w:World) (h:J3 w base v rs) (hi:i<rs.length) (j:Nat) (hj:j=i+1) :
  Calls Tryz.prog 188 #[v,Bb (i:Int),Bb (j:Int)] w fun e w'=>w.grownBy w' v.ownBlock∧∃ v',e=.returned v'∧J3 w' base v' (rs.take i ++ rs.drop (i+1)) :=
 (QoB.1 QsI (Qo7 (z0:=.agg #[Bb 0,Bb 0,Bc,Bc]) (by kernel_rfl) (by simp [Value.cells])) rs i base v w h hi j hj).mono (by rintro e w' ⟨h1,v',h2,h3,-⟩;exact ⟨h1,v',h2,h3⟩)
structure Kn where
 height:Int
 time:Int
 root:Bg
 next:Bg
structure Cl where
 chain:ByteArray
 trust:Int
 frozen:Bool
 known:List Kn
structure Up where
 frm:Int
 sg:Sg
 trusted:List Vl
def Kn.none:Kn:=⟨0,0,[],[]⟩
def Cl.none:Cl:=⟨⟨#[]⟩,0,false,[]⟩
def Kn.fits (k:Kn):Prop:=k.root.length≤140737488351232∧k.next.length≤140737488351232
def Cl.fits (c:Cl):Prop:=c.chain.size≤140737488351232∧c.known.length<2305843009213693952∧∀ k∈c.known,k.fits
variable {c:Cl}
def Up.fits (u:Up):Prop:=u.sg.fits∧u.trusted.length<2305843009213693952∧∀ v∈u.trusted,v.ok
def YH (k:Kn):Int:=if k.height<1∨1000000000000<k.height∨k.time<0∨1000000000000<k.time then 3 else if k.root.length≠32∨k.next.length≠32 then 2 else 0
theorem Qet (k:Kn):YH k=0↔(1≤k.height∧k.height≤1000000000000∧0≤k.time∧k.time≤1000000000000)∧k.root.length=32∧k.next.length=32:=by grind [YH]
def QgO:Option Int→Int→Bool
 | none,_=>false
 | some k,x=>decide (x≤k)
def Qgt (p:Option Int):List Kn→Int
 | []=>0
 | k :: r=>if YH k≠0 then YH k else if QgO p k.height=true then 2 else Qgt (some k.height) r
def Qcj (l:List Kn) (j:Nat):Option Int:=if j=0 then none else (l[j-1]?).map (·.height)
theorem Qma (l:List Kn):Qcj l 0=none:=rfl
theorem Qgc (l:List Kn) (j:Nat) (y:Kn) (h:l[j]?=some y):Qcj l (j+1)=some y.height:=by simp [Qcj,h]
theorem Qt0 (l:List Kn) (j:Nat) (k:Kn) (h:l[j]?=some k):Qgt (Qcj l j) (l.drop j) =
  if YH k≠0 then YH k else if QgO (Qcj l j) k.height=true then 2 else Qgt (Qcj l (j+1)) (l.drop (j+1)):=by
 obtain ⟨hk,rfl⟩:=Bm.1 h;rw [Cs hk,Qgt,Qgc l j _ h]
theorem QrV (l:List Kn) (k:Nat) (h:l.length≤k):Qgt (Qcj l k) (l.drop k)=0:=by
 rw [CK h,Qgt]
def Yl (l:List Kn):Prop:=l.Pairwise fun a b=>a.height<b.height
theorem Qhx:∀ (l:List Kn) (p:Option Int),Qgt p l=0↔(∀ k∈l,YH k=0)∧(∀ h,p=some h→∀ k∈l,h<k.height)∧Yl l
 | [],_=>by simp [Qgt,Yl]
 | k :: r,p=>by
  rw [Qgt]
  constructor
  ·intro h
   split at h
   ·rename_i h1;exact absurd h h1
   ·rename_i h1
    split at h
    ·cases h
    ·rename_i h2
     obtain ⟨i1,i2,i3⟩:=(Qhx r (some k.height)).1 h;have b:=i2 k.height rfl;refine ⟨fun x hx=>?_,fun hh hp x hx=>?_,List.Pairwise.cons (fun x hx=>b x hx) i3⟩
     ·grind
     ·subst hp
      simp [QgO] at h2
      rcases Bo.1 hx with rfl | hx
      ·omega
      ·grind
  ·rintro ⟨h1,h2,h3⟩
   have h1k:=h1 k Cj;rw [if_neg (by omega),if_neg]
   ·refine (Qhx r (some k.height)).2 ⟨fun x hx=>h1 x (Cr _ hx),fun hh hp x hx=>?_,(CN.1 h3).2⟩
    obtain rfl:k.height=hh:=by simp_all
    exact (CN.1 h3).1 x hx
   ·cases p with
    | none=>simp [QgO]
    | some hh =>
     have:=h2 hh rfl k Cj;simp [QgO];omega
def Qz (c:Cl):Int:=if Y7 c.chain=false then 7 else if c.trust<1∨1000000000000<c.trust then 3 else if c.known.length<1∨30<c.known.length then 5 else Qgt none c.known
theorem Yc (c:Cl):Qz c=0↔Y7 c.chain=true∧(1≤c.trust∧c.trust≤1000000000000)∧(1≤c.known.length∧c.known.length≤30)∧(∀ k∈c.known,YH k=0)∧Yl c.known:=by grind [Qz,Qhx]
def YO (chain:ByteArray) (trust:Int) (k:Kn):Cl:=⟨chain,trust,false,[k]⟩
def QhM (chain:ByteArray) (trust:Int) (k:Kn):Cl:=if Qz (YO chain trust k)=0 then YO chain trust k else Cl.none
def atK (l:List Kn) (h:Int):Option Kn:=l.find? fun k=>decide (k.height=h)
theorem QgZ {l:List Kn} {k:Kn} (e:atK l h=some k):k∈l∧k.height=h:=by grind [atK]
theorem Qld {l:List Kn} (e:atK l h=none):∀ k∈l,k.height≠h:=by grind [atK]
theorem Yl.eq {l:List Kn} (h:Yl l) {a b:Kn} (ha:a∈l) (hb:b∈l) (e:a.height=b.height):a=b:=by
 induction l with
 | nil=>cases ha
 | cons x r ih =>
  obtain ⟨h1,h2⟩:=CN.1 h
  rcases Bo.1 ha with ha' | ha'
  ·grind
  ·rcases Bo.1 hb with hb' | hb'
   ·grind
   ·exact ih h2 ha' hb'
theorem QtE {l:List Kn} (h:Yl l) {k:Kn} (hk:k∈l):atK l k.height=some k:=by
 cases e:atK l k.height with
 | none=>exact absurd rfl (Qld e k hk)
 | some x =>
  obtain ⟨h1,h2⟩:=QgZ e;rw [h.eq h1 hk h2]
theorem Qq6 {l:List Kn} (e:∀ k∈l,k.height≠h):atK l h=none:=by grind [atK]
def YJ (c:Cl) (now:Int):Bool:=!c.frozen && (match c.known.getLast? with
 | some k=>decide (now-k.time<c.trust)
 | none=>false)
def Qdq (c:Cl) (k:Kn) (u:Up) (now:Int):Int :=
 if u.sg.hd.chain≠c.chain then 7 else if c.trust≤now-k.time then 11 else if u.sg.hd.height≤k.height then 3
 else if u.sg.hd.time≤k.time∨10<u.sg.hd.time-now then 11
 else if u.sg.hd.height=k.height+1 then (if u.sg.hd.vals=k.next then 0 else 8)
 else if JB u.trusted≠0 then JB u.trusted else if QcD u.trusted≠k.next then 8 else if QjH u.trusted u.sg=false then 10 else 0
def QB (c:Cl) (u:Up) (now:Int):Int :=
 if Zm u.sg≠0 then Zm u.sg else match atK c.known u.frm with
 | none=>6
 | some k=>Qdq c k u now
def QW (c:Cl) (now:Int):Int:=if Qz c≠0 then Qz c else if now<0∨1000000000000<now then 3 else if c.frozen=true then 12 else 0
theorem QaL {now:Int} (h:QW c now=0):Qz c=0∧(0≤now∧now≤1000000000000)∧c.frozen=false:=by grind [QW]
def QkA (l:List Kn) (h:Int):List Kn:=l.filter fun k=>decide (k.height<h)
def QeQ (l:List Kn) (h:Int):List Kn:=l.filter fun k=>decide (h<k.height)
theorem Qr6 {l:List Kn} (hs:Yl l) (e:∀ k∈l,k.height≠h):l=QkA l h ++ QeQ l h:=by
 induction l with
 | nil=>rfl
 | cons x r ih =>
  obtain ⟨h1,h2⟩:=CN.1 hs;have d:=ih h2 (fun k hk=>e k (Cr _ hk))
  by_cases b:x.height<h
  ·have e1:QkA (x :: r) h=x :: QkA r h:=by simp [QkA,b]
   have e2:QeQ (x :: r) h=QeQ r h:=by
    have:¬ h<x.height:=by omega
    simp [QeQ,this]
   rw [e1,e2,By,← d]
  ·have e1:QkA (x :: r) h=[]:=by
    apply Cp.2;intro k hk
    rcases Bo.1 hk with rfl | hk
    ·grind
    ·grind
   have e2:QeQ (x :: r) h=x :: r:=by
    apply CT.2;intro k hk
    rcases Bo.1 hk with rfl | hk
    ·grind
    ·grind
   rw [e1,e2,Bv]
def Qen (l:List Kn) (k:Kn):List Kn:=QkA l k.height ++ k :: QeQ l k.height
def QeJ (l:List Kn):List Kn:=if 30<l.length then l.drop 1 else l
def QjS (l:List Kn) (h t:Int):Bool:=(match (QkA l h).getLast? with
 | some x=>decide (x.time<t)
 | none=>true) && (match (QeQ l h).head? with
 | some x=>decide (t<x.time)
 | none=>true)
def QdV (a b:Kn):Bool:=decide (a.time=b.time) && (decide (a.root=b.root) && decide (a.next=b.next))
def Yv (c:Cl) (k:Kn):Cl:=match atK c.known k.height with
 | some o=>{ c with frozen:=!QdV o k }
 | none=>if QjS c.known k.height k.time=true then { c with known:=QeJ (Qen c.known k) } else { c with frozen:=true }
def Qkz (h:Hd):Kn:=⟨h.height,h.time,h.root,h.next⟩
def Zh (c:Cl) (u:Up) (now:Int):Int:=if QW c now≠0 then QW c now else QB c u now
def YK (c:Cl) (u:Up) (now:Int):Cl:=if Zh c u now=0 then Yv c (Qkz u.sg.hd) else Cl.none
def Qmn (a b:Hd):Bool:=decide (a.chain=b.chain) && (decide (a.height=b.height) && (decide (a.time=b.time) && (decide (a.root=b.root) && (decide (a.vals=b.vals) && decide (a.next=b.next)))))
theorem QqC (a b:Hd):Qmn a b=true↔a=b:=by
 obtain ⟨a1,a2,a3,a4,a5,a6⟩:=a;obtain ⟨b1,b2,b3,b4,b5,b6⟩:=b;simp [Qmn]
def Qd6 (c:Cl) (a b:Up) (now:Int):Int :=
 if QW c now≠0 then QW c now else if QB c a now≠0 then QB c a now else if QB c b now≠0 then QB c b now
 else if a.sg.hd.height≠b.sg.hd.height∨Qmn a.sg.hd b.sg.hd=true then 8 else 0
def Qb1 (c:Cl) (a b:Up) (now:Int):Cl:=if Qd6 c a b now=0 then { c with frozen:=true } else Cl.none
theorem Qnj {u:Up} {now:Int} (h:Zh c u now=0):QW c now=0∧QB c u now=0:=by grind [Zh]
theorem QfW {u:Up} {now:Int} (h:QB c u now=0):Zm u.sg=0∧∃ k,atK c.known u.frm=some k∧Qdq c k u now=0:=by grind [QB]
theorem Qnt {h:Hd} (e:Jq h=0):YH (Qkz h)=0:=by grind [Jq,YH,Qkz]
theorem QaD {s:Sg} (e:Zm s=0):Jq s.hd=0∧JB s.vals=0:=by grind [Yb,Qja]
theorem QnV {l:List Kn} (hs:Yl l) (k:Kn):Yl (Qen l k):=by
 refine D3.2 ⟨hs.filter _,CN.2 ⟨fun x hx=>?_,hs.filter _⟩,fun a ha b hb=>?_⟩
 ·have:=(Cf.1 hx).2
  simpa using this
 ·have h1:a.height<k.height:=by simpa using (Cf.1 ha).2
  rcases Bo.1 hb with rfl | hb
  ·omega
  ·have h2:k.height<b.height:=by simpa using (Cf.1 hb).2
   omega
theorem Qt5 {l:List Kn} {k x:Kn} (h:x∈Qen l k):x=k∨x∈l:=by
 rcases Bz.1 h with h | h
 ·exact .inr (Cf.1 h).1
 ·rcases Bo.1 h with h | h
  ·grind
  ·exact .inr (Cf.1 h).1
theorem QhU {l:List Kn} (hs:Yl l) {k:Kn} (e:∀ x∈l,x.height≠k.height):(Qen l k).length=l.length+1:=by grind [Qen,Qr6]
theorem Qt4 {l:List Kn} {x:Kn} (h:x∈QeJ l):x∈l:=by grind [QeJ]
theorem QnU {l:List Kn} (h:Yl l):Yl (QeJ l):=by grind [Yl,QeJ]
theorem Qnb (l:List Kn) (h:l.length≤31):(QeJ l).length≤30:=by grind [QeJ]
theorem Qrx (l:List Kn) (h:1≤l.length):1≤(QeJ l).length:=by grind [QeJ]
theorem QlS {k:Kn} (hc:Qz c=0) (hk:YH k=0):Qz (Yv c k)=0:=by
 obtain ⟨h1,h2,h3,h4,h5⟩:=(Yc c).1 hc;unfold Yv
 cases e:atK c.known k.height with
 | some o=>exact hc
 | none =>
  have b:=Qld e;simp only
  split
  ·refine (Yc _).2 ⟨h1,h2,⟨Qrx _ ?_,Qnb _ ?_⟩,fun x hx=>?_,QnU (QnV h5 k)⟩
   ·rw [QhU h5 b];omega
   ·rw [QhU h5 b];omega
   ·rcases Qt5 (Qt4 hx) with rfl | hx
    ·exact hk
    ·exact h4 x hx
  ·exact hc
theorem QhD {k:Kn}:(Yv c k).chain=c.chain∧(Yv c k).trust=c.trust:=by grind [Yv]
def AtI (h:Int) (l:List Kn) (i:Nat) (fd:Bool):Prop:=i≤l.length∧(∀ t k,t<i→l[t]?=some k→k.height<h)∧(∀ t k,i≤t→l[t]?=some k→h≤k.height)∧(fd=true↔∃ k,l[i]?=some k∧k.height=h)
theorem AtI.yes {l:List Kn} (hs:Yl l) (a:AtI h l i true):∃ k,l[i]?=some k∧k.height=h∧atK l h=some k:=by grind [AtI,QtE]
theorem AtI.high {l:List Kn} (hs:Yl l) (a:AtI h l i false):∀ t k,i≤t→l[t]?=some k→h<k.height:=by
 intro t k ht hk;have h1:=a.2.2.1 t k ht hk
 rcases Int.lt_or_eq_of_le h1 with h2 | h2
 ·omega
 ·exfalso
  have b:i<l.length:=by grind
  obtain ⟨y,hy⟩:∃ y,l[i]?=some y:=⟨l[i],Bk b⟩;have h3:=a.2.2.1 i y (by omega) hy
  have:(false:Bool)=true:=a.2.2.2.2 ⟨y,hy,by
   rcases Nat.lt_or_eq_of_le ht with h4 | h4
   ·obtain ⟨q1,q2⟩:=Bm.1 hk
    obtain ⟨q3,q4⟩:=Bm.1 hy;have:=Ee.1 hs i t q3 q1 h4;rw [q2,q4] at this;omega
   ·subst h4
    obtain rfl:k=y:=by simp_all
    omega⟩
  cases this
theorem AtI.no {l:List Kn} (hs:Yl l) (a:AtI h l i false):atK l h=none∧QkA l h=l.take i∧QeQ l h=l.drop i:=by
 have hh:=a.high hs
 have d:∀ k∈l.take i,k.height<h:=fun k hk=>by
  obtain ⟨t,ht,rfl⟩:=Dw hk;have ht':t<i:=by grind
  exact a.2.1 t _ ht' (by simp)
 have b:∀ k∈l.drop i,h<k.height:=fun k hk=>by
  obtain ⟨t,ht,rfl⟩:=Dw hk;exact hh (i+t) _ (by omega) (by simp)
 have hl:l=l.take i ++ l.drop i:=(CS i l).symm;refine ⟨Qq6 fun k hk=>?_,?_,?_⟩
 ·grind
 ·conv=>lhs;rw [hl]
  unfold QkA;rw [DQ,CT.2 (fun k hk=>by simpa using d k hk),Cp.2 (fun k hk=>by have:=b k hk;simp;omega),CZ]
 ·conv=>lhs;rw [hl]
  unfold QeQ;rw [DQ,Cp.2 (fun k hk=>by have:=d k hk;simp;omega),CT.2 (fun k hk=>by simpa using b k hk),Bv]
theorem AtI.put {l:List Kn} {k:Kn} (hs:Yl l) (a:AtI k.height l i false):Qen l k=l.take i ++ k :: l.drop i:=by
 obtain ⟨_,h1,h2⟩:=a.no hs;unfold Qen;rw [h1,h2]
def Qp4 (l:List Kn) (i:Nat) (t:Int):Bool:=match i with
 | 0=>true
 | j+1=>match l[j]? with
  | some k=>decide (k.time<t)
  | none=>true
def Qf7 (l:List Kn) (i:Nat) (t:Int):Bool:=match l[i]? with
 | some k=>decide (t<k.time)
 | none=>true
theorem AtI.time {l:List Kn} {t:Int} (hs:Yl l) (a:AtI h l i false):QjS l h t=(Qp4 l i t && Qf7 l i t):=by
 obtain ⟨_,h1,h2⟩:=a.no hs;unfold QjS;rw [h1,h2]
 congr 1
 ·unfold Qp4
  cases i with
  | zero=>simp
  | succ j =>
   have hj:j<l.length:=by have:=a.1;omega
   have e:(l.take (j+1)).getLast?=l[j]?:=by grind
   rw [e]
 ·unfold Qf7
  rw [List.head?_drop]
theorem Qnk {u:Up} {now:Int} (h:Zh c u now=0):YK c u now=Yv c (Qkz u.sg.hd):=by unfold YK;rw [if_pos h]
theorem Qks {u:Up} {now:Int} (h:Zh c u now=0):Qz c=0∧YH (Qkz u.sg.hd)=0∧Qz (YK c u now)=0:=by
 obtain ⟨h1,h2⟩:=Qnj h;have hc:=(QaL h1).1;have hk:=Qnt (QaD (QfW h2).1).1;exact ⟨hc,hk,by rw [Qnk h];exact QlS hc hk⟩
structure KnR where
 k:Kn
 r:Value
 n:Value
def JQ (q:KnR):List Value:=[Bb q.k.height,Bb q.k.time,q.r,q.n]
def KnR.ok (w:World) (N:Nat) (q:KnR):Prop:=Bytes w N q.r q.k.root∧Bytes w N q.n q.k.next
variable {ps:List KnR}
theorem KnR.ok.below {q:KnR} (h:q.ok w N) (hg:Below N w w'):q.ok w' N:=⟨h.1.below hg,h.2.below hg⟩
theorem KnR.ok.mono {q:KnR} (h:q.ok w N) (hN:N≤g):q.ok w g:=⟨h.1.mono hN,h.2.mono hN⟩
theorem KnR.ok.row {q:KnR} (h:q.ok w N):Qqf (JQ q):=by
 obtain ⟨o1,c1,e1,_⟩:=h.1.shape;obtain ⟨o2,c2,e2,_⟩:=h.2.shape;refine ⟨rfl,fun x hx=>?_⟩
 simp [JQ] at hx
 rcases hx with rfl | rfl | rfl | rfl
 ·rfl
 ·rfl
 ·rw [e1];rfl
 ·rw [e2];rfl
theorem QfE: ∀ r∈ps.map JQ,r.length=4:=by simp [JQ]
def Jh (w:World) (N:Nat) (sv:Value) (l:List Kn):Prop:=∃ ps:List KnR,ps.map (·.k)=l∧Q9 w N sv 4 (ps.map JQ)∧∀ q∈ps,q.ok w N
theorem Jh.below {l:List Kn} (h:Jh w N sv l) (hg:Below N w w'):Jh w' N sv l:=by
 obtain ⟨ps,h1,h2,h3⟩:=h;exact ⟨ps,h1,h2.below hg,fun q hq=>(h3 q hq).below hg⟩
theorem Jh.mono {l:List Kn} (h:Jh w N sv l) (hN:N≤g):Jh w g sv l:=by
 obtain ⟨ps,h1,h2,h3⟩:=h;exact ⟨ps,h1,h2.mono hN,fun q hq=>(h3 q hq).mono hN⟩
theorem Jh.shape {l:List Kn} (h:Jh w N sv l):∃ oa b,sv=.slice oa l.length b∧l.length≤b:=by
 obtain ⟨ps,h1,h2,_⟩:=h;obtain ⟨oa,b,e1,e2⟩:=h2.shape;have:(ps.map JQ).length=l.length:=by grind
 rw [this] at e1 e2;exact ⟨oa,b,e1,e2⟩
theorem Jh.nil (w:World) (N:Nat):Jh w N (Bc) []:=⟨[],rfl,.inl ⟨rfl,rfl⟩,fun _ h=>by cases h⟩
theorem Jh.spot {m:Nat} {l:List Kn} (h:Jh w N (.slice oa n m) l) (hl:0<n) :
  ∃ b d,oa=some ⟨b,d,none⟩∧∀ i k,l[i]?=some k→b<N∧∃ vr vn,w.cell? ⟨b,d+i*4,none⟩=some (Bb k.height)∧w.cell? ⟨b,d+i*4+1,none⟩=some (Bb k.time)∧w.cell? ⟨b,d+i*4+2,none⟩=some vr∧w.cell? ⟨b,d+i*4+3,none⟩=some vn∧Bytes w N vr k.root∧Bytes w N vn k.next:=by
 obtain ⟨ps,h1,h2,h3⟩:=h;obtain ⟨b,d,e,hc⟩:=h2.spot hl;refine ⟨b,d,e,fun i k hk=>?_⟩
 rw [← h1,Bt] at hk;obtain ⟨q,hq,rfl⟩:∃ q,ps[i]?=some q∧q.k=k:=by simpa using hk
 obtain ⟨g1,g2⟩:=hc i (JQ q) (by rw [Bt,hq];rfl)
 have j:=h3 q (Bn hq);exact ⟨g1,q.r,q.n,g2 0 _ rfl,g2 1 _ rfl,g2 2 _ rfl,g2 3 _ rfl,j.1,j.2⟩
def KnV (w:World) (N:Nat) (v:Value) (k:Kn):Prop:=∃ rv nv,v=.agg #[Bb k.height,Bb k.time,rv,nv]∧Bytes w N rv k.root∧Bytes w N nv k.next
theorem KnV.below {k:Kn} (h:KnV w N v k) (hg:Below N w w'):KnV w' N v k:=by
 obtain ⟨rv,nv,rfl,h1,h2⟩:=h;exact ⟨rv,nv,rfl,h1.below hg,h2.below hg⟩
theorem KnV.mono {k:Kn} (h:KnV w N v k) (hN:N≤g):KnV w g v k:=by
 obtain ⟨rv,nv,rfl,h1,h2⟩:=h;exact ⟨rv,nv,rfl,h1.mono hN,h2.mono hN⟩
def ClV (w:World) (N:Nat) (v:Value) (c:Cl):Prop:=∃ kv,v=.agg #[.string c.chain,Bb c.trust,.bool c.frozen,kv]∧Jh w N kv c.known
theorem ClV.below (h:ClV w N v c) (hg:Below N w w'):ClV w' N v c:=by
 obtain ⟨kv,rfl,h1⟩:=h;exact ⟨kv,rfl,h1.below hg⟩
theorem ClV.mono (h:ClV w N v c) (hN:N≤g):ClV w g v c:=by
 obtain ⟨kv,rfl,h1⟩:=h;exact ⟨kv,rfl,h1.mono hN⟩
def UpV (w:World) (N:Nat) (v:Value) (u:Up):Prop:=∃ x0 x1 x2 x3 x4 x5 x6 x7 tv,v=.agg #[Bb u.frm,x0,x1,x2,x3,x4,x5,x6,x7,tv]∧SgV w N (.agg #[x0,x1,x2,x3,x4,x5,x6,x7]) u.sg∧Zx w N tv u.trusted
theorem UpV.below {u:Up} (h:UpV w N v u) (hg:Below N w w'):UpV w' N v u:=by
 obtain ⟨x0,x1,x2,x3,x4,x5,x6,x7,tv,rfl,h1,h2⟩:=h;exact ⟨x0,x1,x2,x3,x4,x5,x6,x7,tv,rfl,h1.below hg,h2.below hg⟩
theorem UpV.mono {u:Up} (h:UpV w N v u) (hN:N≤g):UpV w g v u:=by
 obtain ⟨x0,x1,x2,x3,x4,x5,x6,x7,tv,rfl,h1,h2⟩:=h;exact ⟨x0,x1,x2,x3,x4,x5,x6,x7,tv,rfl,h1.mono hN,h2.mono hN⟩
def JL (w:World) (base:Nat) (v:Value) (ps:List KnR):Prop:=J3 w base v (ps.map JQ)∧∀ q∈ps,Qq w base q.r q.k.root∧Qq w base q.n q.k.next
theorem JL.below {base:Nat} (h:JL w base v ps) (hg:Bd w w'):JL w' base v ps :=
 ⟨h.1.below hg,fun q hq=>⟨QU (h.2 q hq).1 hg,QU (h.2 q hq).2 hg⟩⟩
theorem JL.mono {base base':Nat} (h:JL w base v ps) (hb:base'≤base):JL w base' v ps:=⟨h.1.mono hb,fun q hq=>⟨(h.2 q hq).1.mono hb,(h.2 q hq).2.mono hb⟩⟩
theorem JL.shape {base:Nat} (h:JL w base v ps):∃ oa b,v=.slice oa ps.length b∧ps.length≤b:=by
 obtain ⟨oa,b,h1,h2⟩:=h.1.shape;rw [Bp] at h1 h2;exact ⟨oa,b,h1,h2⟩
theorem JL.knowns {base:Nat} (h:JL w base v ps):Jh w w.heap.size v (ps.map (·.k)):=⟨ps,rfl,h.1.recs,fun q hq=>⟨(h.2 q hq).1.bytes,(h.2 q hq).2.bytes⟩⟩
theorem JL.keep {base:Nat} (h:JL w base v ps) (hk:∀ g,base≤g→w'.heap[g]?=w.heap[g]?):JL w' base v ps:=by
 refine ⟨⟨h.1.1,h.1.2.1,?_⟩,fun q hq=>⟨(h.2 q hq).1.keep hk,(h.2 q hq).2.keep hk⟩⟩
 rcases h.1.2.2 with h2 | ⟨g,cap,cur,h3,h4,h5,h6⟩
 ·grind
 ·exact .inr ⟨g,cap,cur,h3,h4,(hk g h4).trans h5,h6⟩
theorem JL.past {base:Nat} {b:List KnR} (h:JL w base v ps) (hg:w.grownBy w' v.ownBlock) (hr:J3 w' base v4 (b.map JQ)) (hm:∀ q∈b,q∈ps∨(Qq w base q.r q.k.root∧Qq w base q.n q.k.next)):JL w' base v4 b:=by
 refine ⟨hr,fun q hq=>?_⟩
 have key:∀ q:KnR,Qq w base q.r q.k.root∧Qq w base q.n q.k.next→Qq w' base q.r q.k.root∧Qq w' base q.n q.k.next:=fun q h1=>⟨h.1.past (by decide) h1.1 hg,h.1.past (by decide) h1.2 hg⟩
 rcases hm q hq with h1 | h1
 ·exact key q (h.2 q h1)
 ·exact key q h1
theorem Qp7 (ps:List KnR) (i:Nat) (q:KnR):QcZ (ps.map JQ) i (JQ q)=(ps.take i ++ q :: ps.drop i).map JQ:=by simp [QcZ]
theorem Qp6 (ps:List KnR) (i:Nat):(ps.map JQ).take i ++ (ps.map JQ).drop (i+1)=(ps.take i ++ ps.drop (i+1)).map JQ:=by simp
def set4 (w:World) (g:Nat) (a b c d:Value):World:=(((w.setCell ⟨g,0,none⟩ a).setCell ⟨g,1,none⟩ b).setCell ⟨g,2,none⟩ c).setCell ⟨g,3,none⟩ d
theorem Qda {a0:Value} (h:Row w g t [a0,v,c0,v4]) (a b c d:Value):Row (set4 w g a b c d) g t [a,b,c,d]:=(((h.set 0 a).set 1 b).set 2 c).set 3 d
theorem Qh6 (w:World) (g:Nat) (a b c d:Value):∀ k,k≠g→(set4 w g a b c d).heap[k]?=w.heap[k]?:=fun k hk=>by
 unfold set4;rw [Cq _ _ _ _ hk,Cq _ _ _ _ hk,Cq _ _ _ _ hk,Cq _ _ _ _ hk]
theorem ZZ (h:Below B w' w) (hg:B≤g) (a b c d:Value):Below B w' (set4 w g a b c d):=(((h.setCell hg _).setCell hg _).setCell hg _).setCell hg _
theorem Row.four {a b c d:Value} (h:Row w g t [a,b,c,d]) :
  (w.cell? ⟨g,0,none⟩=some a∧w.cell? ⟨g,1,none⟩=some b∧w.cell? ⟨g,2,none⟩=some c∧w.cell? ⟨g,3,none⟩=some d)∧w.frozen? ⟨g,0,none⟩=false∧w.frozen? ⟨g,1,none⟩=false∧w.frozen? ⟨g,2,none⟩=false∧w.frozen? ⟨g,3,none⟩=false :=
 ⟨⟨h.cell 0,h.cell 1,h.cell 2,h.cell 3⟩,h.frozen 0,h.frozen 1,h.frozen 2,h.frozen 3⟩
theorem Qh5 {a b c d:Value} (h:Bytes w N v l) (hg:N≤g):Bytes (set4 w g a b c d) (set4 w g a b c d).heap.size v l:=by
 have hb:=ZZ (Bi N w) hg a b c d;have h1:=h.below hb
 rcases h1 with h1 | h1 | ⟨x,off,cap,e1,e2,e3⟩
 ·exact .inl h1
 ·exact .inr (.inl h1)
 ·exact .inr (.inr ⟨x,off,cap,e1,e2,fun i hi=>⟨CF (e3 i hi).2,(e3 i hi).2⟩⟩)
end Go.Proofs.YtnedafiokmjkkaaGreatDoor
