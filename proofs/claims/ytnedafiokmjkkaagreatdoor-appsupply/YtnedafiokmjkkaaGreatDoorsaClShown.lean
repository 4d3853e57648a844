/- What package proof's sideBySide and Absent answer. -/
import Derived.Test.YtnedafiokmjkkaaGreatDoorsaClAsk
namespace Go.Proofs.YtnedafiokmjkkaaGreatDoor
open Tryz
set_option maxRecDepth 1000000
set_option maxHeartbeats 8000000
open Go.RowKit
variable {w:World} {l:List (BitVec 8)} {v:Value} {oa:Option Addr} {g n:Nat} {ls:List (List (BitVec 8))} {c:Cl} {ch:Int} {t:TypeId} {f:FuncId}
theorem QnB (g:Nat) (q:List Tn→Nat→Nat→Nat→World→Prop) (i n:Nat) (w:World) (hi:i<n) (hn:n≤256)
  (C:∀ (ts:List Tn) (j m a:Nat) (wr:World),1<m→j<m→a+m≤n→QaP i n 0=ts ++ QaP j m a→q ts j m a wr→Calls prog 246 #[Bb (QI m:Int),.bool (decide (j<QI m)),.pointer (some ⟨g,0,none⟩)] wr fun e w'=>e=.returned (.tuple #[]) ∧
   if j<QI m then q (ts ++ [⟨false,a+QI m,m-QI m⟩]) j (QI m) a w' else q (ts ++ [⟨true,a,QI m⟩]) (j-QI m) (m-QI m) (a+QI m) w')
  (h0:q [] i n 0 w) :
  Calls prog 245 #[Bb (i:Int),Bb (n:Int),.func (.func 246) #[] #[.pointer (some ⟨g,0,none⟩)]] w fun e w'=>e=.returned (.tuple #[])∧∃ j a,q (QaP i n 0) j 1 a w':=by
 go_in
 go_wp2_with fail
 go_loopw [0,1] (fun s0 s1 wr=>∃ (j m a:Nat) (ts:List Tn),s0=Bb (j:Int)∧s1=Bb (m:Int)∧j<m∧m≤n∧a+m≤n∧Hid (q ts j m a wr∧QaP i n 0=ts ++ QaP j m a)) (fun _ s1 _=>(intOf s1).toNat)
 case atStart=>exact ⟨i,n,0,[],rfl,rfl,hi,Bj _,by omega,hid ⟨h0,rfl⟩⟩
 case round =>
  obtain ⟨j,m,a,ts,rfl,rfl,I,hmn,G,HI⟩:=hrel
  by_cases h1:1<m
  ·have hh:=Qc2 m h1
   have HC:=C ts j m a wr h1 I G HI.out.2 HI.out.1;have A:=QqU m wr (by omega) (by omega)
   have HL:=fun h=>Qj9 j m a h1 h
   have E:=fun h=>Qip j m a h1 h
   obtain ⟨k,hk⟩:∃ k,QI m=k:=⟨_,rfl⟩;rw [hk] at hh HC A HL E
   by_cases b:j<k
   ·have e2:decide ((j:Int)<(k:Int))=true:=by simp;omega
    rw [BB b] at HC
    go_wp2_with fail
    refine A.mono ?_;rintro e w2 ⟨rfl,D⟩;obtain rfl:=D.symm
    go_wp2_with fail
    refine HC.mono ?_;rintro e w3 ⟨rfl,z⟩
    go_wp2_with fail
    refine ⟨⟨j,k,a,ts ++ [⟨false,a+k,m-k⟩],rfl,rfl,b,by omega,by omega,hid ⟨?_,?_⟩⟩,by simp [intOf];omega⟩
    ·have:=z
     rwa [if_pos b] at this
    ·rw [HI.out.2,HL b]
     simp
   ·have e2:decide ((j:Int)<(k:Int))=false:=by simp;omega
    rw [BD b] at HC
    go_wp2_with fail
    refine A.mono ?_;rintro e w2 ⟨rfl,D⟩;obtain rfl:=D.symm
    go_wp2_with fail
    refine HC.mono ?_;rintro e w3 ⟨rfl,z⟩
    go_wp2_with fail
    refine ⟨⟨j-k,m-k,a+k,ts ++ [⟨true,a,k⟩],by go_num,by go_num,by omega,by omega,by omega,hid ⟨?_,?_⟩⟩,by simp [intOf];omega⟩
    ·have:=z
     rwa [if_neg b] at this
    ·rw [HI.out.2,E b]
     simp
  ·have hge:decide ((1:Int)<(m:Int))=false:=by simp;omega
   obtain rfl:m=1:=by omega
   go_wp2
   go_end0
   refine ⟨rfl,j,a,?_⟩;have h2:=HI.out.2;rw [Qm2 j 1 a h1,CZ] at h2;rw [h2];exact HI.out.1
theorem Qoh (kk:Int) (b:Bool) (g base:Nat) (v:Value) (bs:List Bool) (w:World) (hr:Row w g 282 [v]) (hbase:base≤g) (ho:Qai w base v bs) (hl:bs.length≤1000) :
  Calls prog 246 #[Bb kk,.bool b,.pointer (some ⟨g,0,none⟩)] w fun e w'=>e=.returned (.tuple #[])∧Below base w w'∧∃ v',Row w' g 282 [v']∧Qai w' base v' (bs ++ [b]):=by
 have c0:=hr.cell 0;have S:=hr.lt;obtain ⟨w1,D⟩:∃ w1,w.alloc (.cells #[.bool b] 4)=w1:=⟨_,rfl⟩;have m:=bof D;have O:=hr.below m S;have I:Row w1 w.heap.size 4 [.bool b]:=by rw [← D];exact Row.new _ _ _
 have L:=ho.below m;have E:=m.mono (show base≤w.heap.size by omega)
 have hsz:=m.size;obtain ⟨oa,ca,rfl,_⟩:=ho.shape
 go_in
 go_wp2_with (at_builtin;refine QgB rfl (.tmp 5) (.tmp 7) rfl base _ bs rfl L w.heap.size b rfl I (by omega) (by omega) ?_;intro v2 w2 q z A;have j:=hid (A.row O (by decide));have s0:=j.out.cell 0;have s1:=j.out.frozen 0;obtain ⟨o2,c2,C,_⟩:=q.shape;generalize (bs ++ [b]).length=m2 at C;subst C;have M:=hid q;have G:=hid z;clear q z A)
 go_end0
 exact ⟨rfl,(E.trans G.out).setCell (by show base≤g;omega) _,_,j.out.set 0 _,(Qp5 j.out 0 _).owns M.out (by decide)⟩
def QtK (w:World) (ts:List Tn) (_ _ _:Nat) (wr:World):Prop:=Bd w wr∧∃ v,Row wr w.heap.size 282 [v]∧Qai wr w.heap.size v (ts.map (fun t=>!t.right))
theorem Qp3 (i n:Nat) (w:World) (hn:n≤256) (ts:List Tn) (j m a:Nat) (wr:World) (D:QaP i n 0=ts ++ QaP j m a) (A:QtK w ts j m a wr):Calls prog 246 #[Bb (QI m:Int),.bool (decide (j<QI m)),.pointer (some ⟨w.heap.size,0,none⟩)] wr fun e w'=>e=.returned (.tuple #[]) ∧
   if j<QI m then QtK w (ts ++ [⟨false,a+QI m,m-QI m⟩]) j (QI m) a w' else QtK w (ts ++ [⟨true,a,QI m⟩]) (j-QI m) (m-QI m) (a+QI m) w':=by
 obtain ⟨hb,v,hr,ho⟩:=A
 have htl:ts.length≤n:=by
  have:=Qdk n i 0;rw [D,Br] at this;omega
 refine (Qoh _ _ w.heap.size w.heap.size v _ wr hr (Bj _) ho (by rw [Bp];omega)).mono ?_
 rintro e w' ⟨rfl,z,v',C,b⟩;refine ⟨rfl,?_⟩
 split
 ·rename_i q
  rw [BB q] at b;exact ⟨hb.trans z,v',C,by rw [Cc];exact b⟩
 ·rename_i q
  rw [BD q] at b;exact ⟨hb.trans z,v',C,by rw [Cc];exact b⟩
theorem QjY (i n:Nat) (w:World) (hi:i<n) (hn:n≤256) :
  Calls prog 221 #[Bb (i:Int),Bb (n:Int)] w fun e w'=>Bd w w'∧∃ v,e=.returned v∧Qai w' w.heap.size v ((QaP i n 0).map (fun t=>!t.right)).reverse:=by
 obtain ⟨w1,A⟩:∃ w1,w.alloc (.cells #[Bc] 282)=w1:=⟨_,rfl⟩;have M:=bof A;have aA:Row w1 w.heap.size 282 [Bc]:=by rw [← A];exact Row.new _ _ _
 have L:=Qdk n i 0;have HD:=QnB w.heap.size (QtK w) i n w1 hi hn (fun ts j m a wr _ _ _ C z=>Qp3 i n w hn ts j m a wr C z) ⟨M,_,aA,Qai.nil _ _⟩
 go_in
 go_wp2_with fail
 refine HD.mono ?_;rintro e w2 ⟨rfl,j,a,O,v2,q,b⟩;have c0:=q.cell 0;have hlt2:=q.lt;generalize D:(QaP i n 0).map (fun t=>!t.right)=bs at b
 have hbl:bs.length≤256:=by rw [← D,Bp];have:=L;omega
 have I:=Qs0 bs v2 w.heap.size w2 b (by omega) (by omega)
 obtain ⟨o2,c2,rfl,_⟩:=b.shape;generalize bs.length=m2 at *
 go_wp2_with fail
 refine I.mono ?_;rintro e w3 ⟨rfl,Y,S,T⟩;have G:=T.row q (by decide)
 have d0:=G.cell 0;have E:=O.trans S;go_wp2;go_ret;exact ⟨E,_,rfl,by rw [D];exact Y⟩
def QlQ (p:Prf):Prop:=1≤p.size∧p.size≤200∧0≤p.index∧p.index<p.size∧p.key.length≤60∧p.val.length≤200∧p.path.length=(Qfs p).length∧∀ d∈p.path,d.length=32
theorem QrR (p:Prf) (v:Value) (N:Nat) (w:World) (hN:N≤w.heap.size) (hp:Qd7 w N v p) (hf:p.fits) :
  Calls prog 189 #[v] w fun e w'=>Bd w w'∧Yi (QlQ p) e:=by
 obtain ⟨kv,vv,pv,rfl,hk,hv,Y⟩:=hp;obtain ⟨o1,c1,rfl,_⟩:=hk.shape;obtain ⟨o2,c2,rfl,_⟩:=hv.shape;obtain ⟨o3,c3,rfl,_⟩:=Y.shape;obtain ⟨w1,aA⟩:∃ w1,w.alloc (.cells #[Bb p.index,Bb p.size,.slice o1 p.key.length c1,.slice o2 p.val.length c2,.slice o3 p.path.length c3] 42)=w1:=⟨_,rfl⟩;have O:w1.heap.size=w.heap.size+1:=by rw [← aA];simp
 have T:=bof aA;have I:Row w1 w.heap.size 42 [Bb p.index,Bb p.size,.slice o1 p.key.length c1,.slice o2 p.val.length c2,.slice o3 p.path.length c3]:=by rw [← aA];exact Row.new _ _ _
 have z:=hid T;have C:=hid I;have HP:=Y.below (T.mono hN);have q0:=C.out.cell 0;have q1:=C.out.cell 1;have q2:=C.out.cell 2;have q3:=C.out.cell 3;have aK:=hf.2.2.1;clear hk hv Y T I hf;have j:=hid (show QlQ p↔(1≤p.size∧p.size≤200∧0≤p.index∧p.index<p.size∧p.key.length≤60∧p.val.length≤200∧p.path.length=(Qfs p).length∧∀ d∈p.path,d.length=32) from Iff.rfl)
 go_in
 by_cases g1:p.size<1
 ·have e1:decide (p.size<1)=true:=by simpa using g1
  go_wp2;go_ret;exact ⟨z.out,Yi.no (fun h=>by have h:=j.out.1 h;omega)⟩
 have e1:decide (p.size<1)=false:=by simpa using g1
 by_cases g2:200<p.size
 ·have e2:decide ((200:Int)<p.size)=true:=by simpa using g2
  go_wp2;go_ret;exact ⟨z.out,Yi.no (fun h=>by have h:=j.out.1 h;omega)⟩
 have e2:decide ((200:Int)<p.size)=false:=by simpa using g2
 by_cases g3:p.index<0
 ·have e3:decide (p.index<0)=true:=by simpa using g3
  go_wp2;go_ret;exact ⟨z.out,Yi.no (fun h=>by have h:=j.out.1 h;omega)⟩
 have e3:decide (p.index<0)=false:=by simpa using g3
 by_cases g4:p.size≤p.index
 ·have e4:decide (p.size≤p.index)=true:=by simpa using g4
  go_wp2;go_ret;exact ⟨z.out,Yi.no (fun h=>by have h:=j.out.1 h;omega)⟩
 have e4:decide (p.size≤p.index)=false:=by simpa using g4
 obtain ⟨n,hn⟩:∃ n:Nat,p.size=(n:Int):=⟨p.size.toNat,by omega⟩
 obtain ⟨i,hi⟩:∃ i:Nat,p.index=(i:Int):=⟨p.index.toNat,by omega⟩
 have aE:=hid (show ∀ wx:World,Calls prog 221 #[Bb p.index,Bb p.size] wx fun e w'=>Bd wx w'∧∃ v,e=.returned v∧Qai w' wx.heap.size v ((QaP i n 0).map (fun t=>!t.right)).reverse from fun wx=>by rw [hn,hi];exact QjY i n wx (by omega) (by omega))
 obtain ⟨m,hm⟩:∃ m,(Qfs p).length=m:=⟨_,rfl⟩;have HM:=hid (show (((QaP i n 0).map (fun t=>!t.right)).reverse).length=m by rw [← hm];unfold Qfs;rw [hn,hi];simp)
 rw [hm] at j;have aC:=hid (show Bd w w1.drew from z.out.drew);have D:=hid (show ∀ wx,Bd w1 wx→Row wx w.heap.size 42 [Bb p.index,Bb p.size,.slice o1 p.key.length c1,.slice o2 p.val.length c2,.slice o3 p.path.length c3] from fun wx hx=>C.out.below hx (by omega))
 have HG:=hid (show 1≤p.size∧p.size≤200∧0≤p.index∧p.index<p.size by omega)
 clear hn hi hm g1 g2 g3 g4
 by_cases g5:60<p.key.length
 ·have e5:decide ((60:Int)<(p.key.length:Int))=true:=by simp;omega
  go_wp2_with fail
  go_region
  go_wp2;go_ret;exact ⟨aC.out,Yi.no (fun h=>by have h:=j.out.1 h;omega)⟩
 have e5:decide ((60:Int)<(p.key.length:Int))=false:=by simp;omega
 by_cases g6:200<p.val.length
 ·have e6:decide ((200:Int)<(p.val.length:Int))=true:=by simp;omega
  go_wp2_with fail
  go_region
  go_wp2;go_ret;exact ⟨aC.out,Yi.no (fun h=>by have h:=j.out.1 h;omega)⟩
 have e6:decide ((200:Int)<(p.val.length:Int))=false:=by simp;omega
 have aH:=hid (show ∀ w5:World,Bd w w5→Bd w1 w5→Calls prog 222 #[.slice o3 p.path.length c3,.func (.func 223) #[] #[]] w5 fun e w'=>w'=w5∧∃ b,e=.returned (.bool b)∧(b=true↔∃ d∈p.path,d.length≠32) from fun w5 _ hx=>Qkz p.path _ N w5 (HP.below (hx.mono (by omega))) aK)
 have aD:=hid (show p.key.length≤60∧p.val.length≤200 by omega)
 generalize aI:p.path.length=mp at *;clear aI g5 g6;have aF:=hid O;have S:=hid (show ∀ W,Bd w1 W→(W.cell? ⟨w.heap.size,0,none⟩=some (Bb p.index)∧W.cell? ⟨w.heap.size,1,none⟩=some (Bb p.size))∧(W.cell? ⟨w.heap.size,2,none⟩=some (.slice o1 p.key.length c1)∧W.cell? ⟨w.heap.size,3,none⟩=some (.slice o2 p.val.length c2))∧W.cell? ⟨w.heap.size,4,none⟩=some (.slice o3 mp c3) from fun wx hx=>⟨⟨(D.out wx hx).cell 0,(D.out wx hx).cell 1⟩,⟨(D.out wx hx).cell 2,(D.out wx hx).cell 3⟩,(D.out wx hx).cell 4⟩)
 have s1d:=S.out w1.drew (Bi _ _).drew;clear O
 by_cases M:mp=m
 ·subst M
  have e7:((mp:Int) != (mp:Int))=false:=by simp
  go_wp2_with fail
  go_region_held3 (fun W=>(W.cell? ⟨w.heap.size,0,none⟩=some (Bb p.index)∧W.cell? ⟨w.heap.size,1,none⟩=some (Bb p.size))∧(W.cell? ⟨w.heap.size,2,none⟩=some (.slice o1 p.key.length c1)∧W.cell? ⟨w.heap.size,3,none⟩=some (.slice o2 p.val.length c2))∧W.cell? ⟨w.heap.size,4,none⟩=some (.slice o3 mp c3)) (first | assumption) (first | (go_at_call 221;refine (aE.out w1.drew).mono ?_;rintro e w2 ⟨E,v2,rfl,G⟩;obtain ⟨o4,c4,L,_⟩:=G.shape;rw [HM.out] at L;subst L;have A:=hid (show Bd w1 w2 from (show Bd w1 w1.drew from (Bi _ _).drew).trans E);have s2:=S.out w2 A.out;clear E G))
  all_goals
   have q:=hid (z.out.trans (A.out.mono (by have:=aF.out;omega)))
   go_wp2_with fail
   refine (aH.out w2 q.out A.out).mono ?_;rintro e w3 ⟨aL,b,rfl,hb⟩;obtain rfl:=aL.symm;have aB:=hid hb;clear hb
   cases b with
   | true =>
    go_wp2;go_ret;obtain ⟨d,hd,aJ⟩:=aB.out.1 (by trivial)
    exact ⟨q.out,Yi.no (fun h=>by have h:=j.out.1 h;exact aJ (h.2.2.2.2.2.2.2 d hd))⟩
   | false =>
    go_wp2;go_ret;refine ⟨q.out,Yi.yes (j.out.2 ⟨HG.out.1,HG.out.2.1,HG.out.2.2.1,HG.out.2.2.2,aD.out.1,aD.out.2,by trivial,fun d hd=>?_⟩)⟩
    by_cases aG:d.length=32
    ·exact aG
    ·exact absurd (aB.out.2 ⟨d,hd,aG⟩) (by simp)
 ·have e7:((mp:Int) != (m:Int))=true:=by simp;omega
  go_wp2_with fail
  go_region_held3 (fun W=>(W.cell? ⟨w.heap.size,0,none⟩=some (Bb p.index)∧W.cell? ⟨w.heap.size,1,none⟩=some (Bb p.size))∧(W.cell? ⟨w.heap.size,2,none⟩=some (.slice o1 p.key.length c1)∧W.cell? ⟨w.heap.size,3,none⟩=some (.slice o2 p.val.length c2))∧W.cell? ⟨w.heap.size,4,none⟩=some (.slice o3 mp c3)) (first | assumption) (first | (go_at_call 221;refine (aE.out w1.drew).mono ?_;rintro e w2 ⟨E,v2,rfl,G⟩;obtain ⟨o4,c4,L,_⟩:=G.shape;rw [HM.out] at L;subst L;have A:=hid (show Bd w1 w2 from (show Bd w1 w1.drew from (Bi _ _).drew).trans E);have s2:=S.out w2 A.out;clear E G))
  all_goals
   have q:=hid (z.out.trans (A.out.mono (by have:=aF.out;omega)))
   go_wp2;go_ret;exact ⟨q.out,Yi.no (fun h=>by have h:=j.out.1 h;exact M h.2.2.2.2.2.2.1)⟩
theorem Qah.one {base:Nat} (hy:Qq w base v l) (hb:base≤w.heap.size) (w1:World) (hw:w.alloc (.cells #[v] 29)=w1):Qah w1 base (.slice (some ⟨w.heap.size,0,none⟩) 1 1) [l]:=by
 subst hw;refine ⟨[⟨v,l⟩],rfl,⟨rfl,.inr ⟨w.heap.size,1,#[v],rfl,hb,BT w _,Bj _,by unfold maxLen;decide,rfl,rfl⟩⟩,fun q hq=>?_⟩
 obtain rfl:q=⟨v,l⟩:=by simpa using hq
 exact Qq.alloc hy _
theorem Qah.get {base:Nat} {b:Nat} (h:Qah w base (.slice oa n b) ls) (i:Nat) (l:Bg) (hi:ls[i]?=some l):∃ g y,oa=some ⟨g,0,none⟩∧w.cell? ⟨g,i,none⟩=some y∧Qq w base y l:=by
 obtain ⟨ys,rfl,⟨h1,h2⟩,h3⟩:=h;obtain ⟨y,hy,rfl⟩:∃ y,ys[i]?=some y∧y.l=l:=by simpa using hi
 have m:i<ys.length:=(Bm.1 hy).1
 rcases h2 with ⟨_,h0⟩ | ⟨g,c,j,hv,hb,hg,hn,hm,hc,hx⟩
 ·omega
 ·simp at hv
  refine ⟨g,y.v,hv.1,?_,h3 y (Bn hy)⟩;rw [CC w g _ j _ _ hg,← Dn];have e:=Bl (fun l:List Value=>l[i]?) hx
  simp only [BE,Dm] at e;rw [if_pos m] at e;rw [e,Bs,hy];rfl
theorem QnN (p:Prf) (v:Value) (N:Nat) (w:World) (hT:Qi w) (hN:N≤w.heap.size) (hp:Qd7 w N v p) (h1:1≤p.size) (h2:p.size≤200) (h3:0≤p.index) (h4:p.index<p.size) (h5:p.key.length≤60) (h6:p.val.length≤200) (h7:p.path.length=(Qfs p).length) (h8:∀ d∈p.path,d.length=32) :
  Calls prog 190 #[v] w fun e w'=>Bd w w'∧∃ r,e=.returned r∧Qah w' w.heap.size r (Qqa p):=by
 obtain ⟨kv,vv,pv,rfl,hk,hv,az⟩:=hp;obtain ⟨o1,c1,rfl,_⟩:=hk.shape;obtain ⟨o2,c2,rfl,_⟩:=hv.shape;obtain ⟨o3,c3,rfl,_⟩:=az.shape;obtain ⟨w1,bA⟩:∃ w1,w.alloc (.cells #[Bb p.index,Bb p.size,.slice o1 p.key.length c1,.slice o2 p.val.length c2,.slice o3 p.path.length c3] 42)=w1:=⟨_,rfl⟩;have hsz1:w1.heap.size=w.heap.size+1:=by rw [← bA];simp
 have aJ:=bof bA;have M:Row w1 w.heap.size 42 [Bb p.index,Bb p.size,.slice o1 p.key.length c1,.slice o2 p.val.length c2,.slice o3 p.path.length c3]:=by rw [← bA];exact Row.new _ _ _
 have bY:=hid aJ;have HT:=hT.past aJ;have b4:=az.below (aJ.mono hN);have am:∀ wx,Bd w1 wx→Row wx w.heap.size 42 [Bb p.index,Bb p.size,.slice o1 p.key.length c1,.slice o2 p.val.length c2,.slice o3 p.path.length c3]:=fun wx hx=>M.below hx (by omega)
 have bJ:=QiU p.key p.val (.slice o1 p.key.length c1) (.slice o2 p.val.length c2) N w1 (by omega) (hk.below (aJ.mono hN)) (hv.below (aJ.mono hN)) (by omega) (by omega)
 have q2:=M.cell 2;have q3:=M.cell 3;obtain ⟨n,hn⟩:∃ n:Nat,p.size=(n:Int):=⟨p.size.toNat,by omega⟩
 obtain ⟨i,hi⟩:∃ i:Nat,p.index=(i:Int):=⟨p.index.toNat,by omega⟩
 obtain ⟨ws,ad⟩:∃ ws,Qfs p=ws:=⟨_,rfl⟩;have bC:QaP i n 0=ws:=by rw [← ad];unfold Qfs;rw [hn,hi];rfl
 have ar:ws.length≤200:=by rw [← bC];have:=Qdk n i 0;omega
 have bP:∀ wx:World,Calls prog 221 #[Bb p.index,Bb p.size] wx fun e w'=>Bd wx w'∧∃ v,e=.returned v∧Qai w' wx.heap.size v (ws.map (fun t=>!t.right)).reverse:=fun wx=>by rw [hn,hi,← bC];exact QjY i n wx (by omega) (by omega)
 have b3:Qqa p=Qla n (upD ws p.path.reverse (ZR p.key p.val)) :: QhF ws p.path.reverse (Qa5 p.key p.val):=by unfold Qqa;rw [ad,hn];rfl
 rw [ad] at h7;have H7:=hid h7;have H8:=hid h8;have bQ:=hid hn;have bI:p.key.length≤60∧p.val.length≤200∧n≤200:=by omega
 clear hk hv az aJ M hT ad bC hn hi h1 h2 h3 h4 h5 h6 h7 h8
 go_in
 go_wp2_with fail
 refine bJ.mono ?_;rintro e w2 ⟨o4,n4,c4,rfl,aH,aw⟩;have bV:=aw.size;obtain ⟨w3,bB⟩:∃ w3,w2.alloc (.cells #[.slice o4 n4 c4] 29)=w3:=⟨_,rfl⟩;have a7:=bof bB;have bd:=a7.size;have b0:=Qah.one aH bV w3 bB;have bF:=aw.trans (a7.mono bV);have q:=(show Row w3 w2.heap.size 29 [.slice o4 n4 c4] by rw [← bB];exact Row.new _ _ _).cell 0
 have aA:=hid (Qtk _ _ w3.heap.size w3 (Bj _) ((aH.bytes.below a7).mono bd) (HT.past bF) (by have:=bI;simp [JX];omega))
 clear aH aw a7 bJ
 go_wp2_with fail
 refine aA.out.mono ?_;rintro e w4 ⟨o5,c5,rfl,aW,a8⟩;have hz4:=a8.size;have bG:=hid (bF.trans (a8.mono (by omega)))
 have b1:=hid (b0.below a8);have b6:=aW.mono (show w1.heap.size≤w3.heap.size by omega)
 have bM:=hid (am w4 bG.out);have r0:=bM.out.cell 0;have r1:=bM.out.cell 1;clear aW a8 aA q q2 q3
 go_wp2_with fail
 refine (bP w4).mono ?_;rintro e w5 ⟨a9,sv,rfl,ay⟩;obtain ⟨o6,c6,bT,_⟩:=ay.shape;rw [DR,Bp] at bT;subst bT;have bZ:=bG.out.trans (a9.mono (by omega))
 have b2:=b1.out.below a9;have b7:=hid (b6.below a9);have b5:=hid ay;clear a9 ay bP r0 r1;generalize hm:ws.length=m at *;have HM:=hid hm;have hm200:m≤200:=ar;clear hm
 go_wp2_with fail
 go_loopw [3,4,25] (fun s3 s4 bD wr=>∃ k:Nat,k≤m∧bD=Bb (k:Int)∧Hid (Bd w1 wr∧Qah wr w1.heap.size s3 (QcK ws p.path k (Qa5 p.key p.val))∧Qq wr w1.heap.size s4 (upK ws p.path k (ZR p.key p.val))∧Qai wr w4.heap.size (.slice o6 m c6) (ws.map (fun t=>!t.right)).reverse)) (fun _ _ bD _=>m-(intOf bD).toNat)
 case atStart=>exact ⟨0,BF _,rfl,hid ⟨bZ,by rw [Qp9];exact b2,by rw [Qty];exact b7.out,b5.out⟩⟩
 case round =>
  obtain ⟨k,hk,rfl,HR⟩:=hrel
  by_cases aK:k<m
  ·have aY:=HR.out.1.size
   have a6:=hid (am wr HR.out.1);have r4:=a6.out.cell 4;obtain ⟨b,o,bc,hc⟩:=b4.some (by rw [H7.out];omega)
   obtain ⟨hbN,x,hx,aa⟩:=hc k (by rw [H7.out];exact aK)
   subst bc;obtain ⟨d,hd⟩:∃ d,p.path.getD k []=d:=⟨_,rfl⟩;have ab:p.path[k]?=some d:=by rw [← hd];exact getD_some _ _ _ (by rw [H7.out];exact aK)
   rw [hd] at aa;have av:=H8.out d (Bn ab);obtain ⟨od,cd,rfl,_⟩:=aa.shape;have f0:=(HR.out.1.cell (p:=⟨b,o+k,none⟩) (show b<w1.heap.size by omega)).trans hx
   have ai:=aa.below (HR.out.1.mono (show N≤w1.heap.size by omega))
   obtain ⟨t,ht⟩:∃ t,ws[m-1-k]?=some t:=⟨ws[m-1-k]'(by rw [HM.out];omega),Bk _⟩
   obtain ⟨gs,bb,_,_,bS⟩:=HR.out.2.2.2.get (by omega)
   subst bb
   have k0:=bS k (!t.right) (by
    rw [List.getElem?_reverse (by rw [Bp,HM.out];exact aK),Bp,HM.out,Bs,ht]
    rfl)
   have aG:=Qtx ws p.path k (ZR p.key p.val) t d (by rw [HM.out];exact ht) (by rw [HM.out];exact aK) ab
   have Y:=Qp8 ws p.path k (Qa5 p.key p.val) t d (by rw [HM.out];exact ht) (by rw [HM.out];exact aK) ab
   rw [show sha (Qa5 p.key p.val)=ZR p.key p.val from rfl] at Y;obtain ⟨u,hu⟩:∃ u,upK ws p.path k (ZR p.key p.val)=u:=⟨_,rfl⟩;have aD:u.length=32:=by rw [← hu];exact Qpe _ _ _ _ (by unfold ZR;exact QR _)
   rw [hu] at aG Y;have a4:=hid HR.out.1;have a5:=hid HR.out.2.1;have aT:Qq wr w1.heap.size u4 u:=by rw [← hu];exact HR.out.2.2.1
   have bN:=hid HR.out.2.2.2
   have aQ:=hid (show (QcK ws p.path k (Qa5 p.key p.val)).length≤1000000 by
    unfold QcK;rw [DR,Qap _ _ _ (by simp;have:=H7.out;have:=HM.out;omega),Dd]
    omega)
   obtain ⟨oy,cy,bU,_⟩:=aT.shape;rw [aD] at bU;subst bU;rw [av] at f0 ai;have bK:=hid aK;have hltp:(k:Int)<(p.path.length:Int):=by rw [H7.out];omega
   have a3:=hid (QdT d u (.slice od 32 cd) (.slice oy 32 cy) wr.heap.size wr (Bj _) (ai.mono (by omega)) aT.bytes (by omega) (by omega))
   have bH:=hid (show ∀ wx,Bd wr wx→Calls prog 225 #[.slice oy 32 cy,.slice od 32 cd] wx fun e w'=>∃ oa n bR,e=.returned (.slice oa n bR)∧Qq w' wx.heap.size (.slice oa n bR) (ZJ u d)∧Bd wx w' from fun wx hx=>by
    have:=hx.size
    exact QdT u d (.slice oy 32 cy) (.slice od 32 cd) wx.heap.size wx (Bj _) ((aT.bytes.below hx).mono hx.size) ((ai.below (hx.mono (by omega))).mono (by omega)) (by omega) (by omega))
   have E:w1.heap.size≤wr.heap.size:=aY
   have bO:=hid (show ∀ wx,Bd wr wx→wx.cell? ⟨w.heap.size,4,none⟩=some (.slice (some ⟨b,o,none⟩) p.path.length c3)∧wx.cell? ⟨b,o+k,none⟩=some (.slice od 32 cd) from fun wx hx =>
    ⟨(a6.out.below hx (by omega)).cell 4,(hx.cell (p:=⟨b,o+k,none⟩) (show b<wr.heap.size by omega)).trans f0⟩)
   have bE:=hid av;have af:=hid aD;clear hc hx aa hd ab ht bS hu av aD HR
   cases ac:t.right with
   | true =>
    rw [ac] at k0 aG Y;have al:=hid (show QcK ws p.path (k+1) (Qa5 p.key p.val)=QcK ws p.path k (Qa5 p.key p.val) ++ [ZJ d u] from Y);have aq:=hid (show upK ws p.path (k+1) (ZR p.key p.val)=sha (ZJ d u) from aG);have au:=hid (show (ZJ d u).length≤1000000 by rw [QjL,bE.out,af.out];decide)
    clear ac aG Y
    go_wp2_with fail
    refine a3.out.mono ?_;rintro e w6 ⟨o7,n7,c7,rfl,A,C⟩;have bW:=C.size;have aM:=hid (show Qq w6 w1.heap.size (.slice o7 n7 c7) (ZJ d u) from A.mono E);have S:=hid (a4.out.trans (C.mono E));have aO:=hid (a5.out.below C);have an:=hid (bN.out.below C);clear A C a3;obtain ⟨w8,aE⟩:∃ w8,w6.alloc (.cells #[.slice o7 n7 c7] 29)=w8:=⟨_,rfl⟩;have j:=bof aE;have hz8:=j.size;have aR:=hid (QiW aE);have aP:=hid (aO.out.below j);have aF:=hid (aM.out.below j);have ao:=hid (an.out.below j);have T:=hid (S.out.trans (j.mono (show w1.heap.size≤w6.heap.size from S.out.size)));have aC:w1.heap.size≤w8.heap.size:=T.out.size;clear j
    go_wp2_with (at_builtin;refine Qay rfl (.tmp 45) (.tmp 47) rfl w1.heap.size _ _ rfl aP.out w6.heap.size (.slice o7 n7 c7) _ rfl aR.out aF.out aQ.out aC ?_;intro v9 w9 I aB L;have aS:=hid I;have G:=hid (T.out.trans aB);have ap:=hid (show Qai w9 _ _ _ from L.owns ao.out (by decide));have aj:=hid (show Qq w9 _ _ _ from L.owns aF.out (by decide));obtain ⟨o9,c9,aZ,_⟩:=I.shape;generalize (QcK ws p.path k (Qa5 p.key p.val) ++ [ZJ d u]).length=n9 at aZ;subst aZ;clear I aB L)
    have aA:=hid (Qtk (ZJ d u) (.slice o7 n7 c7) w9.heap.size w9 (Bj _) aj.out.bytes (HT.past G.out) au.out)
    go_wp2_with fail
    refine aA.out.mono ?_;rintro e bX ⟨be,ba,rfl,D,z⟩;have aI:=G.out.size;have aV:=hid (D.mono aI);have O:=hid (G.out.trans (z.mono aI));have aN:=hid (aS.out.below z);have aU:=hid (ap.out.below z);clear D z aA
    go_wp2_with fail
    exact ⟨⟨k+1,bK.out,by go_num,hid ⟨O.out,by rw [al.out];exact aN.out,by rw [aq.out];exact aV.out,aU.out⟩⟩,by simp [intOf];omega⟩
   | false =>
    rw [ac] at k0 aG Y;have al:=hid (show QcK ws p.path (k+1) (Qa5 p.key p.val)=QcK ws p.path k (Qa5 p.key p.val) ++ [ZJ u d] from Y);have aq:=hid (show upK ws p.path (k+1) (ZR p.key p.val)=sha (ZJ u d) from aG);have au:=hid (show (ZJ u d).length≤1000000 by rw [QjL,bE.out,af.out];decide)
    clear ac aG Y
    go_wp2_with fail
    refine a3.out.mono ?_;rintro e w6 ⟨o7,n7,c7,rfl,A,C⟩;have bW:=C.size;have ae:=hid C;have s6:=bO.out w6 C;clear A a3
    go_wp2_with fail
    refine (bH.out w6 ae.out).mono ?_;rintro e w7 ⟨o8,n8,c8,rfl,aX,j⟩;have aL:=hid (ae.out.trans (j.mono bW));have aM:=hid (show Qq w7 w1.heap.size (.slice o8 n8 c8) (ZJ u d) from aX.mono (by have:=E;omega))
    have S:=hid (a4.out.trans (aL.out.mono E));have aO:=hid (a5.out.below aL.out);have an:=hid (bN.out.below aL.out);clear aX j C;obtain ⟨w8,aE⟩:∃ w8,w7.alloc (.cells #[.slice o8 n8 c8] 29)=w8:=⟨_,rfl⟩;have j:=bof aE;have aR:=hid (QiW aE);have aP:=hid (aO.out.below j);have aF:=hid (aM.out.below j);have ao:=hid (an.out.below j);have T:=hid (S.out.trans (j.mono (show w1.heap.size≤w7.heap.size from S.out.size)));have aC:w1.heap.size≤w8.heap.size:=T.out.size;clear j
    go_wp2_with (at_builtin;refine Qay rfl (.tmp 45) (.tmp 47) rfl w1.heap.size _ _ rfl aP.out w7.heap.size (.slice o8 n8 c8) _ rfl aR.out aF.out aQ.out aC ?_;intro v9 w9 I aB L;have aS:=hid I;have G:=hid (T.out.trans aB);have ap:=hid (show Qai w9 _ _ _ from L.owns ao.out (by decide));have aj:=hid (show Qq w9 _ _ _ from L.owns aF.out (by decide));obtain ⟨o9,c9,aZ,_⟩:=I.shape;generalize (QcK ws p.path k (Qa5 p.key p.val) ++ [ZJ u d]).length=n9 at aZ;subst aZ;clear I aB L)
    have aA:=hid (Qtk (ZJ u d) (.slice o8 n8 c8) w9.heap.size w9 (Bj _) aj.out.bytes (HT.past G.out) au.out)
    go_wp2_with fail
    refine aA.out.mono ?_;rintro e bX ⟨be,ba,rfl,D,z⟩;have aI:=G.out.size;have aV:=hid (D.mono aI);have O:=hid (G.out.trans (z.mono aI));have aN:=hid (aS.out.below z);have aU:=hid (ap.out.below z);clear D z aA
    go_wp2_with fail
    exact ⟨⟨k+1,bK.out,by go_num,hid ⟨O.out,by rw [al.out];exact aN.out,by rw [aq.out];exact aV.out,aU.out⟩⟩,by simp [intOf];omega⟩
  ·have hge:decide ((k:Int)<(m:Int))=false:=by simp;omega
   have ax:k=m:=by omega
   have aY:=HR.out.1.size;have a6:=hid (am wr HR.out.1);have r1:=a6.out.cell 1;obtain ⟨u,hu⟩:∃ u,upK ws p.path k (ZR p.key p.val)=u:=⟨_,rfl⟩;have aD:u.length=32:=by rw [← hu];exact Qpe _ _ _ _ (by unfold ZR;exact QR _)
   have a4:=hid HR.out.1;have a5:=hid HR.out.2.1;have aT:=hid (show Qq wr w1.heap.size u4 u by rw [← hu];exact HR.out.2.2.1)
   have b9:=hid (show u=upD ws p.path.reverse (ZR p.key p.val) by
    rw [← hu,ax,← HM.out]
    exact QuL ws p.path _ (by rw [H7.out,HM.out]))
   have ak:=hid (show QcK ws p.path k (Qa5 p.key p.val)=(QhF ws p.path.reverse (Qa5 p.key p.val)).reverse by
    rw [ax,← HM.out]
    exact Qsc ws p.path _ (by rw [H7.out,HM.out]))
   have aQ:=hid (show (QcK ws p.path k (Qa5 p.key p.val)).length≤1000000 by
    rw [ak.out,DR,Qap _ _ _ (by rw [DR,H7.out,HM.out])]
    have:=ar;have:=HM.out
    omega)
   have ah:=hid (QdL n u u4 wr.heap.size wr (Bj _) aT.out.bytes (by have:=bI;omega) (by omega))
   rw [← bQ.out] at ah;have E:=hid (show w1.heap.size≤wr.heap.size from aY);clear HR ax hu aD
   go_wp2_with fail
   refine ah.out.mono ?_;rintro e w6 ⟨o7,n7,c7,rfl,A,C⟩;have aM:=hid (show Qq w6 w1.heap.size (.slice o7 n7 c7) (Qla n u) from A.mono E.out);have S:=hid (a4.out.trans (C.mono E.out));have aO:=hid (a5.out.below C);obtain ⟨w8,aE⟩:∃ w8,w6.alloc (.cells #[.slice o7 n7 c7] 29)=w8:=⟨_,rfl⟩;have j:=bof aE;have aR:=hid (QiW aE);have aP:=hid (aO.out.below j);have aF:=hid (aM.out.below j);have T:=hid (S.out.trans (j.mono (show w1.heap.size≤w6.heap.size from S.out.size)));have aC:w1.heap.size≤w8.heap.size:=T.out.size;clear j A C ah
   go_wp2_with (at_builtin;refine Qay rfl (.tmp 52) (.tmp 57) rfl w1.heap.size _ _ rfl aP.out w6.heap.size (.slice o7 n7 c7) _ rfl aR.out aF.out aQ.out aC ?_;intro v9 w9 I aB L;have aS:=hid I;have G:=hid (T.out.trans aB);clear I aB L)
   have aI:=G.out.size;refine (QsY _ v9 w1.heap.size w9 aS.out aI (by rw [Br];have:=aQ.out;have:=ar;rw [ak.out,DR,Qap _ _ _ (by rw [DR,H7.out,HM.out])];have:=HM.out;simp;omega)).mono ?_
   rintro e bX ⟨rfl,ag,z,_⟩;have bL:=hid ag;have O:=hid (G.out.trans z);clear ag z;go_wp2;go_ret;refine ⟨bY.out.trans (O.out.mono (by omega)),_,rfl,?_⟩
   have h:=bL.out.mono (show w.heap.size≤w1.heap.size by omega)
   rw [ak.out,b9.out,List.reverse_append,Ep,List.reverse_reverse,Eq] at h;rw [b3];exact h
def Qu8 (f:FuncId):Prop:=∀ (r:Bg) (p:Prf) (rv v:Value) (N:Nat) (w:World),Qi w→N≤w.heap.size→Bytes w N rv r→Qd7 w N v p→p.fits→r.length≤140737488351232 →
 Calls prog f #[rv,v] w fun e w'=>Bd w w'∧Yi (JZ r p) e
def QtC (f:FuncId):Prop:=∀ (r k:Bg) (g:Gp) (rv kv v:Value) (N:Nat) (w:World),Qi w→N≤w.heap.size→Bytes w N rv r→Bytes w N kv k→GpV w N v g→g.fits→r.length≤140737488351232→k.length≤140737488351232 →
 Calls prog f #[rv,kv,v] w fun e w'=>Bd w w'∧Yi (QaG r k g) e
theorem Qic (r:Bg) (p:Prf):JZ r p↔QlQ p∧sha (Qla p.size.toNat (upD (Qfs p) p.path.reverse (ZR p.key p.val)))=r:=by
 unfold JZ QlQ
 constructor
 ·rintro ⟨a,b,c,d,e,f,g,h,i⟩
  exact ⟨⟨a,b,c,d,e,f,g,h⟩,i⟩
 ·rintro ⟨⟨a,b,c,d,e,f,g,h⟩,i⟩
  exact ⟨a,b,c,d,e,f,g,h,i⟩
theorem Qog: Qu8 145:=by
 intro r p rv v N w hT hN hr hp hf hrl;obtain ⟨aL,cr,rfl,_⟩:=hr.shape;have M:=hid hp;obtain ⟨kv,vv,pv,rfl,hk,hv,aJ⟩:=hp;obtain ⟨o1,c1,rfl,_⟩:=hk.shape;obtain ⟨o2,c2,rfl,_⟩:=hv.shape;obtain ⟨o3,c3,rfl,_⟩:=aJ.shape;obtain ⟨w1,E⟩:∃ w1,w.alloc (.cells #[Bb p.index,Bb p.size,.slice o1 p.key.length c1,.slice o2 p.val.length c2,.slice o3 p.path.length c3] 42)=w1:=⟨_,rfl⟩;have hsz1:w1.heap.size=w.heap.size+1:=by rw [← E];simp
 have S:=bof E;have b:Row w1 w.heap.size 42 [Bb p.index,Bb p.size,.slice o1 p.key.length c1,.slice o2 p.val.length c2,.slice o3 p.path.length c3]:=by rw [← E];exact Row.new _ _ _
 have I:=QrR p _ N w1 (by omega) (M.out.below (S.mono hN)) hf
 have aG:∀ wx,Bd w1 wx→Row wx w.heap.size 42 [Bb p.index,Bb p.size,.slice o1 p.key.length c1,.slice o2 p.val.length c2,.slice o3 p.path.length c3]:=fun wx hx=>b.below hx (by omega)
 have q0:=b.cell 0;have q1:=b.cell 1;have q2:=b.cell 2;have q3:=b.cell 3;have q4:=b.cell 4;generalize hrn:r.length=rn at *
 go_in
 go_wp2_with fail
 refine I.mono ?_;rintro e w2 ⟨C,bb,rfl,Y⟩;have G:=hid Y;have hz2:=C.size;have j:=S.trans (C.mono (by omega))
 have m:=hid (aG w2 C);have r0:=m.out.cell 0;have r1:=m.out.cell 1;have r2:=m.out.cell 2;have r3:=m.out.cell 3;have r4:=m.out.cell 4;clear Y I q0 q1 q2 q3 q4
 cases bb with
 | false =>
  go_wp2;go_ret;exact ⟨j,Yi.no (fun h=>absurd (G.out.2 ((Qic r p).1 h).1) (by simp))⟩
 | true =>
  have aA:QlQ p:=G.out.1 rfl;have aE:=hid aA;obtain ⟨f1,f2,f3,f4,f5,f6,f7,f8⟩:=aA;have aF:=hid (QnN p _ N w2 (hT.past j) (by omega) (M.out.below (j.mono hN)) f1 f2 f3 f4 f5 f6 f7 f8)
  have L:=Ql8 p f7
  have O:=hid (show (Qla p.size.toNat (upD (Qfs p) p.path.reverse (ZR p.key p.val))).length≤1000000 by
   rw [Qtp,Qpc _ _ _ (by unfold ZR;exact QR _)]
   decide)
  clear f1 f2 f3 f4 f5 f6 f7 f8
  go_wp2_with fail
  refine aF.out.mono ?_;rintro e w3 ⟨T,lv,rfl,aC⟩;have hz3:=T.size;obtain ⟨o5,c5,aB,_⟩:=aC.shape;rw [L] at aB;subst aB;obtain ⟨g,y,hg,hy,q⟩:=aC.get 0 _ (show (Qqa p)[0]?=some (Qla p.size.toNat (upD (Qfs p) p.path.reverse (ZR p.key p.val))) from rfl);subst hg;obtain ⟨o6,c6,rfl,_⟩:=q.shape;obtain ⟨x,hx⟩:∃ x,Qla p.size.toNat (upD (Qfs p) p.path.reverse (ZR p.key p.val))=x:=⟨_,rfl⟩;rw [hx] at hy q O;have z:=hid (j.trans (T.mono (by omega)))
  have aH:=Qtk x _ w3.heap.size w3 (Bj _) q.bytes (hT.past z.out) O.out;generalize x.length=nx at *
  go_wp2_with fail
  refine aH.mono ?_;rintro e w4 ⟨o7,c7,rfl,D,aI⟩;have A:=z.out.trans (aI.mono (by omega))
  have aD:=hid (YD (sha x) r (.slice o7 32 c7) (.slice aL rn cr) w4.heap.size N w4 D.bytes (hr.below (A.mono hN)))
  go_wp2_with fail
  refine aD.out.mono ?_;rintro e w5 ⟨rfl,aK⟩;obtain rfl:=aK.symm;go_wp2;go_ret;refine ⟨A,_,rfl,?_⟩;rw [D2,Qic,hx];exact ⟨fun h=>⟨aE.out,h⟩,fun h=>h.2⟩
def Qtb (g:Gp):Prop:=(g.hasL=true→g.hasR=true→g.right.size=g.left.size∧g.left.index+1=g.right.index)∧(g.hasL=true→g.hasR=false→g.left.index+1=g.left.size)∧(g.hasL=false→g.hasR=true→g.right.index=0)
theorem Qie (g:Gp) (a1 a2 a3 a4 a5 a6:Option Addr) (b1 b2 b3 b4 b5 b6:Nat) (w:World) (z:g.hasL=true∨g.hasR=true) (hl:g.hasL=true→1≤g.left.size∧g.left.size≤200∧0≤g.left.index∧g.left.index<g.left.size) :
  Calls prog 239 #[.agg #[.bool g.hasL,.bool g.hasR,Bb g.left.index,Bb g.left.size,.slice a1 g.left.key.length b1,.slice a2 g.left.val.length b2,.slice a3 g.left.path.length b3,Bb g.right.index,Bb g.right.size,.slice a4 g.right.key.length b4,.slice a5 g.right.val.length b5,.slice a6 g.right.path.length b6]] w fun e w'=>Bd w w'∧Yi (Qtb g) e:=by
 obtain ⟨w1,q⟩:∃ w1,w.alloc (.cells #[.bool g.hasL,.bool g.hasR,Bb g.left.index,Bb g.left.size,.slice a1 g.left.key.length b1,.slice a2 g.left.val.length b2,.slice a3 g.left.path.length b3,Bb g.right.index,Bb g.right.size,.slice a4 g.right.key.length b4,.slice a5 g.right.val.length b5,.slice a6 g.right.path.length b6] 44)=w1:=⟨_,rfl⟩;have m:=bof q;have b:Row w1 w.heap.size 44 [.bool g.hasL,.bool g.hasR,Bb g.left.index,Bb g.left.size,.slice a1 g.left.key.length b1,.slice a2 g.left.val.length b2,.slice a3 g.left.path.length b3,Bb g.right.index,Bb g.right.size,.slice a4 g.right.key.length b4,.slice a5 g.right.val.length b5,.slice a6 g.right.path.length b6]:=by rw [← q];exact Row.new _ _ _
 have q0:=b.cell 0;have q1:=b.cell 1;have q2:=b.cell 2;have q3:=b.cell 3;have q7:=b.cell 7;have q8:=b.cell 8;obtain ⟨L,hL⟩:∃ L,g.hasL=L:=⟨_,rfl⟩;obtain ⟨R,hR⟩:∃ R,g.hasR=R:=⟨_,rfl⟩;have j:=hid (show Qtb g↔((L=true→R=true→g.right.size=g.left.size∧g.left.index+1=g.right.index)∧(L=true→R=false→g.left.index+1=g.left.size)∧(L=false→R=true→g.right.index=0)) by rw [← hL,← hR];exact Iff.rfl)
 rw [hL,hR] at z;rw [hL] at hl;rw [hL,hR] at q;rw [hL] at q0;rw [hR] at q1;rw [hL,hR]
 go_in
 cases R with
 | false =>
  obtain rfl:L=true:=by simpa using z
  have A:=hl rfl;go_wp2;go_ret;refine ⟨m,_,rfl,?_⟩;rw [j.out];simp;omega
 | true =>
  cases L with
  | false =>
   go_wp2;go_ret;refine ⟨m,_,rfl,?_⟩;rw [j.out];simp
  | true =>
   have A:=hl rfl
   by_cases hs:g.left.size=g.right.size
   ·have e1:(g.left.size == g.right.size)=true:=by simpa using hs
    have HS:=hid hs;clear hs;go_wp2;go_ret;refine ⟨m,_,rfl,?_⟩;have:=HS.out;rw [j.out];simp;omega
   ·have e1:(g.left.size == g.right.size)=false:=by simpa using hs
    go_wp2;go_ret;refine ⟨m,Yi.no (fun h=>?_)⟩
    have:=(j.out.1 h).1 (by trivial) (by trivial)
    omega
theorem QtN: QtC 207:=by
 intro r k g rv kv v N w hT hN hr hk hg hf aE hkl;obtain ⟨aQ,cr,rfl,_⟩:=hr.shape;obtain ⟨ok,ck,rfl,_⟩:=hk.shape;obtain ⟨k1,v1,p1,k2,v2,p2,rfl,E,T,O,G,Y,S⟩:=hg;obtain ⟨a1,b1,rfl,_⟩:=E.shape;obtain ⟨a2,b2,rfl,_⟩:=T.shape;obtain ⟨a3,b3,rfl,_⟩:=O.shape;obtain ⟨a4,b4,rfl,_⟩:=G.shape;obtain ⟨a5,b5,rfl,_⟩:=Y.shape;obtain ⟨a6,b6,rfl,_⟩:=S.shape;have aL:=hid (fun W h1 h2=>Qie g a1 a2 a3 a4 a5 a6 b1 b2 b3 b4 b5 b6 W h1 h2)
 have C:=hid (show QaG r k g↔if g.hasL=false∧g.hasR=false then r=Qvt 0 [] else (g.hasL=true→JZ r g.left∧QaB g.left.key k=true)∧(g.hasR=true→JZ r g.right∧QaB k g.right.key=true)∧Qtb g from Iff.rfl)
 have aM:=hid (fun W (hb:Bd w W)=>Qog r g.left _ _ N W (hT.past hb) (Bh hN hb.size) (hr.below (hb.mono hN)) ⟨_,_,_,rfl,E.below (hb.mono hN),T.below (hb.mono hN),O.below (hb.mono hN)⟩ hf.1 aE)
 have aO:=hid (fun W (hb:Bd w W)=>Qog r g.right _ _ N W (hT.past hb) (Bh hN hb.size) (hr.below (hb.mono hN)) ⟨_,_,_,rfl,G.below (hb.mono hN),Y.below (hb.mono hN),S.below (hb.mono hN)⟩ hf.2 aE)
 have aH:=hid (fun W (hb:Bd w W)=>Qf5 _ _ _ _ N N W (E.below (hb.mono hN)) (hk.below (hb.mono hN)))
 have aI:=hid (fun W (hb:Bd w W)=>Qf5 _ _ _ _ N N W (hk.below (hb.mono hN)) (G.below (hb.mono hN)))
 have aK:=hid hr;have HT:=hid hT;clear E T O G Y S hT hr hk hf;generalize g.hasL=L at *;generalize g.hasR=R at *
 go_in
 go_upto_region 1 with fail
 refine JQ ?_;intro w0 F hs;have HF:=hid F;clear F
 go_cut [14] (fun s wr=>s=.bool (!L && !R)∧Hid (Bd w0 wr∧True))
 case first =>
  have kc:=HF.out.r0.cell
  cases L <;> cases R
  all_goals
   go_wp2_with fail
   go_meet
   exact ⟨rfl,hid ⟨Bi _ _,trivial⟩⟩
 case rest =>
  obtain ⟨rfl,HB⟩:=hcut
  cases M:(!L && !R) with
  | true =>
   obtain ⟨rfl,rfl⟩:L=false∧R=false:=by simpa using M
   have aG:=hid (QdL 0 [] (Bc) wc.heap.size wc (Bj _) (.inl ⟨rfl,rfl⟩) (by decide) (by decide))
   go_wp2_with fail
   refine aG.out.mono ?_;rintro e w2 ⟨o2,n2,c2,rfl,z,m⟩;have j:=hid (HB.out.1.trans (m.mono HB.out.1.size));have aN:=hid (Qtk _ (.slice o2 n2 c2) w2.heap.size w2 (Bj _) z.bytes (HT.out.past (HF.out.go j.out).b) (by decide))
   clear z m
   go_wp2_with fail
   refine aN.out.mono ?_;rintro e w3 ⟨o3,c3,rfl,A,aC⟩;have aB:=hgo j aC;have aJ:=hid (YD _ r (.slice o3 32 c3) (.slice aQ r.length cr) w3.heap.size N w3 A.bytes (aK.out.below ((HF.out.go aB.out).b.mono hN)));clear A aC
   go_wp2_with fail
   refine aJ.out.mono ?_;rintro e w4 ⟨rfl,aP⟩;obtain rfl:=aP.symm;go_wp2;go_ret;refine ⟨(HF.out.go aB.out).b,_,rfl,?_⟩;rw [D2,C.out,if_pos (by simp)]
   exact ⟨fun h=>h.symm,fun h=>h.symm⟩
  | false =>
   have D:=hid (show ¬ (L=false∧R=false) by rintro ⟨rfl,rfl⟩;simp at M)
   go_upto_region 3 with fail
   go_cut [35] (fun s wr=>∃ c,s=.bool c∧Hid (Bd w0 wr∧(c=false↔(L=true→JZ r g.left∧QaB g.left.key k=true))))
   case first =>
    cases L with
    | false =>
     have kc:=(HF.out.go HB.out.1).r0.cell
     go_wp2_with fail
     go_meet
     exact ⟨false,rfl,hid ⟨HB.out.1,by simp⟩⟩
    | true =>
     have kc:=(HF.out.go HB.out.1).r0.cell
     go_wp2_with fail
     refine (aM.out _ (HF.out.go HB.out.1).b).mono ?_;rintro e w2 ⟨m,bb,rfl,q⟩;have j:=hid (HB.out.1.trans (m.mono HB.out.1.size));have HW:=hid q;clear kc m q;have kc:=(HF.out.go j.out).r0.cell
     cases bb with
     | false =>
      go_wp2_with fail
      go_meet
      exact ⟨true,rfl,hid ⟨j.out,⟨(fun h=>by cases h),fun h=>absurd (HW.out.2 (h (by simp)).1) (by simp)⟩⟩⟩
     | true =>
      cases hc:decide (Qkr g.left.key k<0)
      all_goals
       go_wp2_with fail
       refine (aH.out _ (HF.out.go j.out).b).mono ?_;rintro e wz ⟨rfl,aA⟩;obtain rfl:=aA.symm
       go_wp2_with fail
       go_meet
       exact ⟨_,rfl,hid ⟨j.out,by have:=HW.out.1 (by simp);have:=QlA g.left.key k;simp at hc;grind⟩⟩
   case rest =>
    clear HB M;obtain ⟨c,rfl,HB⟩:=hcut
    cases c with
    | true =>
     go_wp2;go_ret;refine ⟨(HF.out.go HB.out.1).b,Yi.no fun h=>?_⟩
     have h:=C.out.1 h;rw [if_neg D.out] at h;exact absurd (HB.out.2.2 h.1) (by simp)
    | false =>
     have HL:=hid (HB.out.2.1 (by simp))
     go_upto_region 5 with fail
     go_cut [52] (fun s wr=>∃ c,s=.bool c∧Hid (Bd w0 wr∧(c=false↔(R=true→JZ r g.right∧QaB k g.right.key=true))))
     case first =>
      cases R with
      | false =>
       have kc:=(HF.out.go HB.out.1).r0.cell
       go_wp2_with fail
       go_meet
       exact ⟨false,rfl,hid ⟨HB.out.1,by simp⟩⟩
      | true =>
       have kc:=(HF.out.go HB.out.1).r0.cell
       go_wp2_with fail
       refine (aO.out _ (HF.out.go HB.out.1).b).mono ?_;rintro e w2 ⟨m,bb,rfl,q⟩;have j:=hid (HB.out.1.trans (m.mono HB.out.1.size));have HW:=hid q;clear kc m q;have kc:=(HF.out.go j.out).r0.cell
       cases bb with
       | false =>
        go_wp2_with fail
        go_meet
        exact ⟨true,rfl,hid ⟨j.out,⟨(fun h=>by cases h),fun h=>absurd (HW.out.2 (h (by simp)).1) (by simp)⟩⟩⟩
       | true =>
        cases hc:decide (Qkr k g.right.key<0)
        all_goals
         go_wp2_with fail
         refine (aI.out _ (HF.out.go j.out).b).mono ?_;rintro e wz ⟨rfl,aA⟩;obtain rfl:=aA.symm
         go_wp2_with fail
         go_meet
         exact ⟨_,rfl,hid ⟨j.out,by have:=HW.out.1 (by simp);have:=QlA k g.right.key;simp at hc;grind⟩⟩
     case rest =>
      clear HB;obtain ⟨c,rfl,HB⟩:=hcut
      cases c with
      | true =>
       go_wp2;go_ret;refine ⟨(HF.out.go HB.out.1).b,Yi.no fun h=>?_⟩
       have h:=C.out.1 h;rw [if_neg D.out] at h;exact absurd (HB.out.2.2 h.2.1) (by simp)
      | false =>
       have kc:=(HF.out.go HB.out.1).r0.cell
       go_wp2_with fail
       refine (aL.out wc (by have:=D.out;cases L <;> cases R <;> simp_all) (fun h=>⟨(HL.out h).1.1,(HL.out h).1.2.1,(HL.out h).1.2.2.1,(HL.out h).1.2.2.2.1⟩)).mono ?_
       rintro e we ⟨aD,be,rfl,I⟩;have HE:=hid I;have aF:=hid (HB.out.1.trans (aD.mono HB.out.1.size));clear aD I;go_wp2;go_ret;refine ⟨(HF.out.go aF.out).b,be,rfl,HE.out.trans ?_⟩;rw [C.out,if_neg D.out];exact ⟨fun h=>⟨HL.out,HB.out.2.1 (by simp),h⟩,fun h=>h.2.2⟩
def QU (c:Cl) (now height:Int) (P:Bg→Prop) (z:Int):Prop :=
 (QY c now≠0∧z=QY c now)∨(QY c now=0∧atK c.known height=none∧z=6)∨(QY c now=0∧∃ k,atK c.known height=some k∧((YL c now=false∧z=11)∨(YL c now=true∧((P k.root∧z=0)∨(¬ P k.root∧z=9)))))
theorem QU.eq {now height:Int} {P:Bg→Prop} {z:Int} (h:QU c now height P z) (g:QU c now height P ch):z=ch:=by
 rcases h with ⟨h1,rfl⟩ | ⟨h1,h2,rfl⟩ | ⟨h1,k,h2,h3⟩
 ·rcases g with ⟨_,rfl⟩ | ⟨g1,_⟩ | ⟨g1,_⟩
  ·rfl
  ·exact absurd g1 h1
  ·exact absurd g1 h1
 ·rcases g with ⟨g1,_⟩ | ⟨_,_,rfl⟩ | ⟨_,k,g2,_⟩
  ·exact absurd h1 g1
  ·rfl
  ·rw [h2] at g2;cases g2
 ·rcases g with ⟨g1,_⟩ | ⟨_,g2,_⟩ | ⟨_,k',g2,g3⟩
  ·exact absurd h1 g1
  ·rw [h2] at g2;cases g2
  ·rw [h2] at g2
   obtain rfl:k=k':=by simpa using g2
   rcases h3 with ⟨a1,rfl⟩ | ⟨a1,a2⟩
   ·rcases g3 with ⟨_,rfl⟩ | ⟨b1,_⟩
    ·rfl
    ·rw [a1] at b1;cases b1
   ·rcases g3 with ⟨b1,_⟩ | ⟨_,b2⟩
    ·rw [a1] at b1;cases b1
    ·rcases a2 with ⟨a3,rfl⟩ | ⟨a3,rfl⟩
     ·rcases b2 with ⟨_,rfl⟩ | ⟨b3,_⟩
      ·rfl
      ·exact absurd a3 b3
     ·rcases b2 with ⟨b3,_⟩ | ⟨_,rfl⟩
      ·exact absurd b3 a3
      ·rfl
theorem QU.frozen {now height:Int} {P:Bg→Prop} {z:Int} (h:QU c now height P z) (ha:QY c now=12):z=12:=by
 rcases h with ⟨_,rfl⟩ | ⟨h1,_⟩ | ⟨h1,_⟩
 ·exact ha
 ·omega
 ·omega
theorem Row.five {a b c d e:Value} (h:Row w g t [a,b,c,d,e]):w.cell? ⟨g,0,none⟩=some a∧w.cell? ⟨g,1,none⟩=some b∧w.cell? ⟨g,2,none⟩=some c∧w.cell? ⟨g,3,none⟩=some d∧w.cell? ⟨g,4,none⟩=some e :=
 ⟨h.cell 0,h.cell 1,h.cell 2,h.cell 3,h.cell 4⟩
theorem Qmh (p:Prf) (key val root:Bg) (gp gk gv:Nat) (pv kv vv rv:Value) (N:Nat) (w:World) (A:Qi w) (hN:N≤w.heap.size) (hp:Qd7 w N pv p) (hk:Bytes w N kv key) (hv:Bytes w N vv val) (hr:Bytes w w.heap.size rv root) (hf:p.fits) (G:root.length≤140737488351232)
  (I:∃ cs,pv=.agg cs∧Row w gp 42 cs.toList) (E:Row w gk 29 [kv]) (L:Row w gv 29 [vv]) :
  Calls prog 143 #[rv,.pointer (some ⟨gp,0,none⟩),.pointer (some ⟨gk,0,none⟩),.pointer (some ⟨gv,0,none⟩)] w fun e w'=>Bd w w'∧Yi (p.key=key∧p.val=val∧JZ root p) e:=by
 have HS:=Qog root p rv pv w.heap.size w A (Bj _) hr (hp.mono hN) hf G;obtain ⟨x1,x2,x3,rfl,h1,h2,h3⟩:=hp;have j:=YD p.key key x1 kv N N w h1 hk;have m:=YD p.val val x2 vv N N w h2 hv;obtain ⟨q1,y1,rfl,_⟩:=h1.shape;obtain ⟨q2,y2,rfl,_⟩:=h2.shape;obtain ⟨q3,y3,rfl,_⟩:=h3.shape;obtain ⟨o1,c1,rfl,_⟩:=hk.shape;obtain ⟨o2,c2,rfl,_⟩:=hv.shape;obtain ⟨o3,c3,rfl,_⟩:=hr.shape;obtain ⟨cs,D,z⟩:=I;obtain rfl:cs=#[Bb p.index,Bb p.size,.slice q1 p.key.length y1,.slice q2 p.val.length y2,.slice q3 p.path.length y3]:=by simpa using D.symm
 obtain ⟨i0,i1,i2,i3,i4⟩:=Row.five z;have k0:=E.cell 0;have k1:=L.cell 0;simp only [Em] at k0 k1
 by_cases e1:p.key=key
 ·rw [BB e1] at j
  by_cases e2:p.val=val
  ·rw [BB e2] at m
   generalize p.key.length=n1 at *;generalize p.val.length=n2 at *;generalize p.path.length=n3 at *;generalize key.length=n4 at *;generalize val.length=n5 at *;generalize hn6:root.length=n6 at *
   go_in
   go_wp2_with fail
   refine j.mono ?_;rintro e w2 ⟨rfl,b⟩;obtain rfl:=b.symm
   go_wp2_with fail
   refine m.mono ?_;rintro e w2 ⟨rfl,b⟩;obtain rfl:=b.symm
   go_wp2_with fail
   refine HS.mono ?_;rintro e w3 ⟨C,bb,rfl,q⟩;go_wp2;go_ret;exact ⟨C,bb,rfl,fun h=>⟨e1,e2,q.1 h⟩,fun h=>q.2 h.2.2⟩
  ·rw [BD e2] at m
   generalize p.key.length=n1 at *;generalize p.val.length=n2 at *;generalize key.length=n4 at *;generalize val.length=n5 at *
   go_in
   go_wp2_with fail
   refine j.mono ?_;rintro e w2 ⟨rfl,b⟩;obtain rfl:=b.symm
   go_wp2_with fail
   refine m.mono ?_;rintro e w2 ⟨rfl,b⟩;obtain rfl:=b.symm;go_wp2;go_ret;exact ⟨Bi _ _,Yi.no (fun h=>e2 h.2.1)⟩
 ·rw [BD e1] at j
  generalize p.key.length=n1 at *;generalize key.length=n4 at *
  go_in
  go_wp2_with fail
  refine j.mono ?_;rintro e w2 ⟨rfl,b⟩;obtain rfl:=b.symm;go_wp2;go_ret;exact ⟨Bi _ _,Yi.no (fun h=>e1 h.1)⟩
theorem QkP (g:Gp) (key root:Bg) (gk gg:Nat) (gv kv rv:Value) (N:Nat) (w:World) (j:Qi w) (hN:N≤w.heap.size) (hg:GpV w N gv g) (hk:Bytes w N kv key) (hr:Bytes w w.heap.size rv root) (hf:g.fits) (A:key.length≤140737488351232) (E:root.length≤140737488351232)
  (C:∃ cs,gv=.agg cs∧Row w gg 44 cs.toList) (D:Row w gk 29 [kv]) :
  Calls prog 206 #[rv,.pointer (some ⟨gk,0,none⟩),.pointer (some ⟨gg,0,none⟩)] w fun e w'=>Bd w w'∧Yi (QaG root key g) e:=by
 have HS:=QtN root key g rv kv gv w.heap.size w j (Bj _) hr (hk.mono hN) (hg.mono hN) hf E A;obtain ⟨k1,v1,t1,k2,v2,t2,rfl,h1,h2,h3,h4,h5,h6⟩:=hg;obtain ⟨q1,y1,rfl,_⟩:=h1.shape;obtain ⟨q2,y2,rfl,_⟩:=h2.shape;obtain ⟨q3,y3,rfl,_⟩:=h3.shape;obtain ⟨q4,y4,rfl,_⟩:=h4.shape;obtain ⟨q5,y5,rfl,_⟩:=h5.shape;obtain ⟨q6,y6,rfl,_⟩:=h6.shape;obtain ⟨o1,c1,rfl,_⟩:=hk.shape;obtain ⟨o3,c3,rfl,_⟩:=hr.shape;obtain ⟨cs,z,b⟩:=C;obtain rfl:=(Dz z).symm;have i0:=b.cell 0;have i1:=b.cell 1;have i2:=b.cell 2;have i3:=b.cell 3;have i4:=b.cell 4;have i5:=b.cell 5;have i6:=b.cell 6;have i7:=b.cell 7;have i8:=b.cell 8;have i9:=b.cell 9;have G:=b.cell 10;have I:=b.cell 11;have j0:=D.cell 0;simp only [Em,List.getElem?_cons_succ] at i0 i1 i2 i3 i4 i5 i6 i7 i8 i9 G I j0
 go_in
 go_wp2_with fail
 refine HS.mono ?_;rintro e w3 ⟨m,bb,rfl,q⟩;go_wp2;go_ret;exact ⟨m,bb,rfl,q⟩
def Qbi (f:FuncId):Prop:=∀ (c:Cl) (now height:Int) (key val:Bg) (p:Prf) (cv kv vv pv:Value) (N:Nat) (w:World),Qi w→N≤w.heap.size→ClV w N cv c→Bytes w N kv key→Bytes w N vv val→Qd7 w N pv p→c.fits→key.length≤140737488351232→val.length≤140737488351232→p.fits →
 Calls prog f #[cv,Bb now,Bb height,kv,vv,pv] w fun e w'=>Bd w w'∧∃ z,e=.returned (Bb z)∧QU c now height (fun r=>p.key=key∧p.val=val∧JZ r p) z
def QeB (f:FuncId):Prop:=∀ (c:Cl) (now height:Int) (key:Bg) (g:Gp) (cv kv gv:Value) (N:Nat) (w:World),Qi w→N≤w.heap.size→ClV w N cv c→Bytes w N kv key→GpV w N gv g→c.fits→key.length≤140737488351232→g.fits →
 Calls prog f #[cv,Bb now,Bb height,kv,gv] w fun e w'=>Bd w w'∧∃ z,e=.returned (Bb z)∧QU c now height (fun r=>QaG r key g) z
theorem QjX (P:Bg→Prop) (f:FuncId) (A:Array Value) (hrun:∀ (q:Array Value) (W:World),(callFunc f q).run prog W=.ok (.enter f q) W) (c:Cl) (now height:Int) (cv:Value) (N:Nat) (w:World) (hN:N≤w.heap.size) (m:ClV w N cv c) (E:c.fits)
  (hh:∀ (wx:World) (root:Bg) (rv:Value),Bd w wx→Bytes wx wx.heap.size rv root→root.length≤140737488351232→Calls prog f (#[rv] ++ A) wx fun e w'=>Bd wx w'∧Yi (P root) e) :
  Calls prog 142 #[cv,Bb now,Bb height,.func (.func f) #[] A] w fun e w'=>Bd w w'∧∃ z,e=.returned (Bb z)∧QU c now height P z:=by
 have I:=fun W (hb:Bd w W)=>Qnd c now cv N W (m.below (hb.mono hN)) (Bh hN hb.size) E
 have L:=fun W (hb:Bd w W)=>QuV c height cv N W (m.below (hb.mono hN)) (Bh hN hb.size) E
 have C:=fun (h0:QY c now=0) W (hb:Bd w W)=>QoG c now cv N W (m.below (hb.mono hN)) (Bh hN hb.size) (QaR h0).1 (QaR h0).2.1
 obtain ⟨kv,rfl,hk⟩:=m;obtain ⟨oa,ca,rfl,-⟩:=hk.shape
 go_in
 go_upto_region 1 with fail
 refine JQ ?_;intro w0 F hs
 go_wp2_with (refine F.load 0 rfl Qm ?_)
 refine (I _ F.b).mono ?_;rintro e w1 ⟨rfl,hb⟩;replace F:=F.go hb
 by_cases ha:QY c now=0
 ·replace C:=hid (C ha)
  rw [ha]
  go_wp2_with (refine F.load 0 rfl Qm ?_)
  refine (L _ F.b).mono ?_;rintro e w2 ⟨hb,p1,d1,p2,d2,rfl,hx,-⟩;replace F:=F.go hb
  cases j:atK c.known height with
  | none =>
   have HB:=hid F.b;simp only [Option.isSome];generalize QeW c.known height=k at *;go_wp2;go_ret;exact ⟨HB.out.alloc HB.out.size _,_,rfl,.inr (.inl ⟨ha,j,rfl⟩)⟩
  | some k =>
   have HT:=And.intro j (E.2.2 k (Qg2 j).1).1;rw [QfL j] at hx ⊢;simp only [Option.isSome]
   go_upto_region 5 with fail
   refine F.box ?_;intro w3 F3 hs hb;replace hx:=hid ((hx.below hb).mono hb.size)
   go_wp2_with (refine F3.load 0 rfl Qm ?_)
   refine (C _ F3.b).mono ?_;rintro e w4 ⟨rfl,hb⟩;have F:=F3.go hb;replace hx:=hid ((hx.below hb).mono hb.size);have k1:=F.r1.cell
   cases D:YL c now with
   | false =>
    go_wp2;go_ret;exact ⟨F.b,_,rfl,.inr (.inr ⟨ha,k,HT.1,.inl ⟨D,rfl⟩⟩)⟩
   | true =>
    have HP:=hid (hh w4 k.root _ F.b hx HT.2)
    go_wp2_with fail
    refine HP.out.mono ?_;rintro e w5 ⟨hb,bb,rfl,G⟩;have HB:=hid (F.go hb).b
    cases bb with
    | true =>
     go_wp2;go_ret;exact ⟨HB.out,_,rfl,.inr (.inr ⟨ha,k,HT.1,.inr ⟨D,.inl ⟨G.1 (by simp),rfl⟩⟩⟩)⟩
    | false =>
     go_wp2;go_ret;exact ⟨HB.out,_,rfl,.inr (.inr ⟨ha,k,HT.1,.inr ⟨D,.inr ⟨fun h=>absurd (G.2 h) (by simp),rfl⟩⟩⟩)⟩
 ·have HA:=hid ha
  have e1:(QY c now != 0)=true:=by simpa using ha
  have HB:=hid F.b;generalize hz:QY c now=z at *;go_wp2;go_ret;exact ⟨HB.out,_,rfl,.inl ⟨by rw [hz];exact HA.out,hz.symm⟩⟩
theorem Qe1: Qbi 107:=by
 intro c now height key val p cv kv vv pv N w j hN m hk hv hp A hkl hvl D;have HX:=fun W (hb:Bd w W)=>And.intro (j.below hb j.lt) (And.intro (m.below (hb.mono hN)) (And.intro (hk.below (hb.mono hN)) (And.intro (hv.below (hb.mono hN)) (hp.below (hb.mono hN)))))
 obtain ⟨xv,rfl,C⟩:=m;obtain ⟨oa,ca,rfl,-⟩:=C.shape;obtain ⟨o1,c1,rfl,-⟩:=hk.shape;obtain ⟨o2,c2,rfl,-⟩:=hv.shape;obtain ⟨x1,x2,x3,rfl,h1,h2,h3⟩:=hp;obtain ⟨q1,y1,rfl,-⟩:=h1.shape;obtain ⟨q2,y2,rfl,-⟩:=h2.shape;obtain ⟨q3,y3,rfl,-⟩:=h3.shape
 go_in
 go_upto_region 1 with fail
 refine Qan ?_;intro w0 F hs
 go_wp2_with (refine F.load 0 rfl Qm ?_)
 refine (QjX (fun r=>p.key=key∧p.val=val∧JZ r p) 143 #[.pointer (some ⟨w.heap.size+1+1+1,0,none⟩),.pointer (some ⟨w.heap.size+1,0,none⟩),.pointer (some ⟨w.heap.size+1+1,0,none⟩)] (fun _ _=>rfl) c now height _ N w0 (Bh hN F.b.size) (HX _ F.b).2.1 A (fun wx root rv hx hr E=>by
  have F:=F.go hx;obtain ⟨g1,-,g3,g4,g5⟩:=HX _ F.b
  exact Qmh p key val root _ _ _ _ _ _ rv N wx g1 (Bh hN F.b.size) g5 g3 g4 hr D E ⟨_,rfl,F.r3⟩ F.r1 F.r2)).mono ?_
 rintro e w1 ⟨q,z,rfl,hz⟩;have HZ:=And.intro (F.go q).b hz;go_wp2;go_ret;exact ⟨HZ.1,z,rfl,HZ.2⟩
theorem Qsl: QeB 170:=by
 intro c now height key g cv kv gv N w j hN m hk hg A D C;have HX:=fun W (hb:Bd w W)=>And.intro (j.below hb j.lt) (And.intro (m.below (hb.mono hN)) (And.intro (hk.below (hb.mono hN)) (hg.below (hb.mono hN))))
 obtain ⟨xv,rfl,E⟩:=m;obtain ⟨oa,ca,rfl,-⟩:=E.shape;obtain ⟨o1,c1,rfl,-⟩:=hk.shape;obtain ⟨k1,v1,t1,k2,v2,t2,rfl,h1,h2,h3,h4,h5,h6⟩:=hg;obtain ⟨q1,y1,rfl,-⟩:=h1.shape;obtain ⟨q2,y2,rfl,-⟩:=h2.shape;obtain ⟨q3,y3,rfl,-⟩:=h3.shape;obtain ⟨q4,y4,rfl,-⟩:=h4.shape;obtain ⟨q5,y5,rfl,-⟩:=h5.shape;obtain ⟨q6,y6,rfl,-⟩:=h6.shape
 go_in
 go_upto_region 1 with fail
 refine JR ?_;intro w0 F hs
 go_wp2_with (refine F.load 0 rfl Qm ?_)
 refine (QjX (fun r=>QaG r key g) 206 #[.pointer (some ⟨w.heap.size+1,0,none⟩),.pointer (some ⟨w.heap.size+1+1,0,none⟩)] (fun _ _=>rfl) c now height _ N w0 (Bh hN F.b.size) (HX _ F.b).2.1 A (fun wx root rv hx hr G=>by
  have F:=F.go hx;obtain ⟨g1,-,g3,g4⟩:=HX _ F.b
  exact QkP g key root _ _ _ _ rv N wx g1 (Bh hN F.b.size) g4 g3 hr C D G ⟨_,rfl,F.r2⟩ F.r1)).mono ?_
 rintro e w1 ⟨q,z,rfl,hz⟩;have HZ:=And.intro (F.go q).b hz;go_wp2;go_ret;exact ⟨HZ.1,z,rfl,HZ.2⟩
theorem QU.some (c:Cl) (now height:Int) (P:Bg→Prop):∃ z,QU c now height P z:=by
 by_cases h1:QY c now=0
 ·cases h2:atK c.known height with
  | none=>exact ⟨6,.inr (.inl ⟨h1,h2,rfl⟩)⟩
  | some k =>
   cases h3:YL c now with
   | false=>exact ⟨11,.inr (.inr ⟨h1,k,h2,.inl ⟨h3,rfl⟩⟩)⟩
   | true =>
    by_cases h4:P k.root
    ·exact ⟨0,.inr (.inr ⟨h1,k,h2,.inr ⟨h3,.inl ⟨h4,rfl⟩⟩⟩)⟩
    ·exact ⟨9,.inr (.inr ⟨h1,k,h2,.inr ⟨h3,.inr ⟨h4,rfl⟩⟩⟩)⟩
 ·exact ⟨QY c now,.inl ⟨h1,rfl⟩⟩
theorem Qbi.z (h:Qbi f) (c:Cl) (now height:Int) (key val:Bg) (p:Prf) (cv kv vv pv:Value) (N:Nat) (w:World) (h1:Qi w) (h2:N≤w.heap.size) (h3:ClV w N cv c) (h4:Bytes w N kv key) (h5:Bytes w N vv val) (h6:Qd7 w N pv p) (h7:c.fits) (h8:key.length≤140737488351232) (h9:val.length≤140737488351232) (b:p.fits) (hz:QU c now height (fun r=>p.key=key∧p.val=val∧JZ r p) ch) :
  Calls prog f #[cv,Bb now,Bb height,kv,vv,pv] w fun e w'=>e=.returned (Bb ch)∧Bd w w':=by
 refine (h c now height key val p cv kv vv pv N w h1 h2 h3 h4 h5 h6 h7 h8 h9 b).mono ?_;rintro e w' ⟨hb,z,rfl,j⟩;exact ⟨by rw [j.eq hz],hb⟩
theorem QeB.z (h:QeB f) (c:Cl) (now height:Int) (key:Bg) (g:Gp) (cv kv gv:Value) (N:Nat) (w:World) (h1:Qi w) (h2:N≤w.heap.size) (h3:ClV w N cv c) (h4:Bytes w N kv key) (h6:GpV w N gv g) (h7:c.fits) (h8:key.length≤140737488351232) (b:g.fits) (hz:QU c now height (fun r=>QaG r key g) ch) :
  Calls prog f #[cv,Bb now,Bb height,kv,gv] w fun e w'=>e=.returned (Bb ch)∧Bd w w':=by
 refine (h c now height key g cv kv gv N w h1 h2 h3 h4 h6 h7 h8 b).mono ?_;rintro e w' ⟨hb,z,rfl,j⟩;exact ⟨by rw [j.eq hz],hb⟩
end Go.Proofs.YtnedafiokmjkkaaGreatDoor
