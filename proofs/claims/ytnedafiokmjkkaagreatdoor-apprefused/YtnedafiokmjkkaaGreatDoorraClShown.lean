/- What package proof's sideBySide and Absent answer. -/
import Derived.Test.YtnedafiokmjkkaaGreatDoorraClAsk
namespace Go.Proofs.YtnedafiokmjkkaaGreatDoor
open Tryz
set_option maxRecDepth 1000000
set_option maxHeartbeats 8000000
open Go.RowKit
variable {w:World} {l:List (BitVec 8)} {v:Value} {oa:Option Addr} {g n:Nat} {ls:List (List (BitVec 8))} {c:Cl} {ch:Int} {t:TypeId} {f:FuncId}
theorem Qnh (g:Nat) (d:List Tn→Nat→Nat→Nat→World→Prop) (i n:Nat) (w:World) (hi:i<n) (hn:n≤256)
  (A:∀ (ts:List Tn) (j m a:Nat) (wr:World),1<m→j<m→a+m≤n→QaJ i n 0=ts ++ QaJ j m a→d ts j m a wr→Calls prog 246 #[Bb (QJ m:Int),.bool (decide (j<QJ m)),.pointer (some ⟨g,0,none⟩)] wr fun e w'=>e=.returned (.tuple #[]) ∧
   if j<QJ m then d (ts ++ [⟨false,a+QJ m,m-QJ m⟩]) j (QJ m) a w' else d (ts ++ [⟨true,a,QJ m⟩]) (j-QJ m) (m-QJ m) (a+QJ m) w')
  (h0:d [] i n 0 w) :
  Calls prog 245 #[Bb (i:Int),Bb (n:Int),.func (.func 246) #[] #[.pointer (some ⟨g,0,none⟩)]] w fun e w'=>e=.returned (.tuple #[])∧∃ j a,d (QaJ i n 0) j 1 a w':=by
 go_in
 go_wp2_with fail
 go_loopw [0,1] (fun s0 s1 wr=>∃ (j m a:Nat) (ts:List Tn),s0=Bb (j:Int)∧s1=Bb (m:Int)∧j<m∧m≤n∧a+m≤n∧Hid (d ts j m a wr∧QaJ i n 0=ts ++ QaJ j m a)) (fun _ s1 _=>(intOf s1).toNat)
 case atStart=>exact ⟨i,n,0,[],rfl,rfl,hi,Bj _,by omega,hid ⟨h0,rfl⟩⟩
 case round =>
  obtain ⟨j,m,a,ts,rfl,rfl,G,hmn,E,HI⟩:=hrel
  by_cases h1:1<m
  ·have hh:=QcY m h1
   have HC:=A ts j m a wr h1 G E HI.out.2 HI.out.1;have z:=QqI m wr (by omega) (by omega)
   have HL:=fun h=>QjY j m a h1 h
   have D:=fun h=>Qij j m a h1 h
   obtain ⟨k,hk⟩:∃ k,QJ m=k:=⟨_,rfl⟩;rw [hk] at hh HC z HL D
   by_cases b:j<k
   ·have e2:decide ((j:Int)<(k:Int))=true:=by simp;omega
    rw [BB b] at HC
    go_wp2_with fail
    refine z.mono ?_;rintro e w2 ⟨rfl,C⟩;obtain rfl:=C.symm
    go_wp2_with fail
    refine HC.mono ?_;rintro e w3 ⟨rfl,q⟩
    go_wp2_with fail
    refine ⟨⟨j,k,a,ts ++ [⟨false,a+k,m-k⟩],rfl,rfl,b,by omega,by omega,hid ⟨?_,?_⟩⟩,by simp [intOf];omega⟩
    ·have:=q
     rwa [if_pos b] at this
    ·rw [HI.out.2,HL b]
     simp
   ·have e2:decide ((j:Int)<(k:Int))=false:=by simp;omega
    rw [BC b] at HC
    go_wp2_with fail
    refine z.mono ?_;rintro e w2 ⟨rfl,C⟩;obtain rfl:=C.symm
    go_wp2_with fail
    refine HC.mono ?_;rintro e w3 ⟨rfl,q⟩
    go_wp2_with fail
    refine ⟨⟨j-k,m-k,a+k,ts ++ [⟨true,a,k⟩],by go_num,by go_num,by omega,by omega,by omega,hid ⟨?_,?_⟩⟩,by simp [intOf];omega⟩
    ·have:=q
     rwa [if_neg b] at this
    ·rw [HI.out.2,D b]
     simp
  ·have hge:decide ((1:Int)<(m:Int))=false:=by simp;omega
   obtain rfl:m=1:=by omega
   go_wp2
   go_end0
   refine ⟨rfl,j,a,?_⟩;have h2:=HI.out.2;rw [QmJ j 1 a h1,CZ] at h2;rw [h2];exact HI.out.1
theorem Qn4 (kk:Int) (b:Bool) (g base:Nat) (v:Value) (bs:List Bool) (w:World) (hr:Row w g 282 [v]) (hbase:base≤g) (ho:Qaa w base v bs) (hl:bs.length≤1000) :
  Calls prog 246 #[Bb kk,.bool b,.pointer (some ⟨g,0,none⟩)] w fun e w'=>e=.returned (.tuple #[])∧Below base w w'∧∃ v',Row w' g 282 [v']∧Qaa w' base v' (bs ++ [b]):=by
 have c0:=hr.cell 0;have O:=hr.lt;obtain ⟨w1,C⟩:∃ w1,w.alloc (.cells #[.bool b] 4)=w1:=⟨_,rfl⟩;have j:=bof C;have M:=hr.below j O;have G:Row w1 w.heap.size 4 [.bool b]:=by rw [← C];exact Row.new _ _ _
 have I:=ho.below j;have D:=j.mono (show base≤w.heap.size by omega)
 have hsz:=j.size;obtain ⟨oa,ca,rfl,_⟩:=ho.shape
 go_in
 go_wp2_with (at_builtin;refine Qgv rfl (.tmp 5) (.tmp 7) rfl base _ bs rfl I w.heap.size b rfl G (by omega) (by omega) ?_;intro v2 w2 m q z;have d:=hid (z.row M (by decide));have s0:=d.out.cell 0;have s1:=d.out.frozen 0;obtain ⟨o2,c2,A,_⟩:=m.shape;generalize (bs ++ [b]).length=m2 at A;subst A;have L:=hid m;have E:=hid q;clear m q z)
 go_end0
 exact ⟨rfl,(D.trans E.out).setCell (by show base≤g;omega) _,_,d.out.set 0 _,(QpR d.out 0 _).owns L.out (by decide)⟩
def Qtv (w:World) (ts:List Tn) (_ _ _:Nat) (wr:World):Prop:=Bd w wr∧∃ v,Row wr w.heap.size 282 [v]∧Qaa wr w.heap.size v (ts.map (fun t=>!t.right))
theorem QpP (i n:Nat) (w:World) (hn:n≤256) (ts:List Tn) (j m a:Nat) (wr:World) (C:QaJ i n 0=ts ++ QaJ j m a) (z:Qtv w ts j m a wr):Calls prog 246 #[Bb (QJ m:Int),.bool (decide (j<QJ m)),.pointer (some ⟨w.heap.size,0,none⟩)] wr fun e w'=>e=.returned (.tuple #[]) ∧
   if j<QJ m then Qtv w (ts ++ [⟨false,a+QJ m,m-QJ m⟩]) j (QJ m) a w' else Qtv w (ts ++ [⟨true,a,QJ m⟩]) (j-QJ m) (m-QJ m) (a+QJ m) w':=by
 obtain ⟨hb,v,hr,ho⟩:=z
 have htl:ts.length≤n:=by
  have:=Qdh n i 0;rw [C,Bs] at this;omega
 refine (Qn4 _ _ w.heap.size w.heap.size v _ wr hr (Bj _) ho (by rw [Bp];omega)).mono ?_
 rintro e w' ⟨rfl,q,v',A,b⟩;refine ⟨rfl,?_⟩
 split
 ·rename_i d
  rw [BB d] at b;exact ⟨hb.trans q,v',A,by rw [Cc];exact b⟩
 ·rename_i d
  rw [BC d] at b;exact ⟨hb.trans q,v',A,by rw [Cc];exact b⟩
theorem QjO (i n:Nat) (w:World) (hi:i<n) (hn:n≤256) :
  Calls prog 221 #[Bb (i:Int),Bb (n:Int)] w fun e w'=>Bd w w'∧∃ v,e=.returned v∧Qaa w' w.heap.size v ((QaJ i n 0).map (fun t=>!t.right)).reverse:=by
 obtain ⟨w1,z⟩:∃ w1,w.alloc (.cells #[Bc] 282)=w1:=⟨_,rfl⟩;have L:=bof z;have Y:Row w1 w.heap.size 282 [Bc]:=by rw [← z];exact Row.new _ _ _
 have I:=Qdh n i 0;have HD:=Qnh w.heap.size (Qtv w) i n w1 hi hn (fun ts j m a wr _ _ _ A q=>QpP i n w hn ts j m a wr A q) ⟨L,_,Y,Qaa.nil _ _⟩
 go_in
 go_wp2_with fail
 refine HD.mono ?_;rintro e w2 ⟨rfl,j,a,M,v2,d,b⟩;have c0:=d.cell 0;have hlt2:=d.lt;generalize C:(QaJ i n 0).map (fun t=>!t.right)=bs at b
 have hbl:bs.length≤256:=by rw [← C,Bp];have:=I;omega
 have G:=QsM bs v2 w.heap.size w2 b (by omega) (by omega)
 obtain ⟨o2,c2,rfl,_⟩:=b.shape;generalize bs.length=m2 at *
 go_wp2_with fail
 refine G.mono ?_;rintro e w3 ⟨rfl,T,O,S⟩;have E:=S.row d (by decide)
 have d0:=E.cell 0;have D:=M.trans O;go_wp2;go_ret;exact ⟨D,_,rfl,by rw [C];exact T⟩
def QlA (p:Prf):Prop:=1≤p.size∧p.size≤200∧0≤p.index∧p.index<p.size∧p.key.length≤60∧p.val.length≤200∧p.path.length=(Qfo p).length∧∀ d∈p.path,d.length=32
theorem QrE (p:Prf) (v:Value) (N:Nat) (w:World) (hN:N≤w.heap.size) (hp:Qd3 w N v p) (hf:p.fits) :
  Calls prog 189 #[v] w fun e w'=>Bd w w'∧Yj (QlA p) e:=by
 obtain ⟨kv,vv,pv,rfl,hk,hv,Y⟩:=hp;obtain ⟨o1,c1,rfl,_⟩:=hk.shape;obtain ⟨o2,c2,rfl,_⟩:=hv.shape;obtain ⟨o3,c3,rfl,_⟩:=Y.shape;obtain ⟨w1,aA⟩:∃ w1,w.alloc (.cells #[Bb p.index,Bb p.size,.slice o1 p.key.length c1,.slice o2 p.val.length c2,.slice o3 p.path.length c3] 42)=w1:=⟨_,rfl⟩;have O:w1.heap.size=w.heap.size+1:=by rw [← aA];simp
 have T:=bof aA;have I:Row w1 w.heap.size 42 [Bb p.index,Bb p.size,.slice o1 p.key.length c1,.slice o2 p.val.length c2,.slice o3 p.path.length c3]:=by rw [← aA];exact Row.new _ _ _
 have z:=hid T;have C:=hid I;have HP:=Y.below (T.mono hN);have q0:=C.out.cell 0;have q1:=C.out.cell 1;have q2:=C.out.cell 2;have q3:=C.out.cell 3;have aK:=hf.2.2.1;clear hk hv Y T I hf;have j:=hid (show QlA p↔(1≤p.size∧p.size≤200∧0≤p.index∧p.index<p.size∧p.key.length≤60∧p.val.length≤200∧p.path.length=(Qfo p).length∧∀ d∈p.path,d.length=32) from Iff.rfl)
 go_in
 by_cases g1:p.size<1
 ·have e1:decide (p.size<1)=true:=by simpa using g1
  go_wp2;go_ret;exact ⟨z.out,Yj.no (fun h=>by have h:=j.out.1 h;omega)⟩
 have e1:decide (p.size<1)=false:=by simpa using g1
 by_cases g2:200<p.size
 ·have e2:decide ((200:Int)<p.size)=true:=by simpa using g2
  go_wp2;go_ret;exact ⟨z.out,Yj.no (fun h=>by have h:=j.out.1 h;omega)⟩
 have e2:decide ((200:Int)<p.size)=false:=by simpa using g2
 by_cases g3:p.index<0
 ·have e3:decide (p.index<0)=true:=by simpa using g3
  go_wp2;go_ret;exact ⟨z.out,Yj.no (fun h=>by have h:=j.out.1 h;omega)⟩
 have e3:decide (p.index<0)=false:=by simpa using g3
 by_cases g4:p.size≤p.index
 ·have e4:decide (p.size≤p.index)=true:=by simpa using g4
  go_wp2;go_ret;exact ⟨z.out,Yj.no (fun h=>by have h:=j.out.1 h;omega)⟩
 have e4:decide (p.size≤p.index)=false:=by simpa using g4
 obtain ⟨n,hn⟩:∃ n:Nat,p.size=(n:Int):=⟨p.size.toNat,by omega⟩
 obtain ⟨i,hi⟩:∃ i:Nat,p.index=(i:Int):=⟨p.index.toNat,by omega⟩
 have aE:=hid (show ∀ wx:World,Calls prog 221 #[Bb p.index,Bb p.size] wx fun e w'=>Bd wx w'∧∃ v,e=.returned v∧Qaa w' wx.heap.size v ((QaJ i n 0).map (fun t=>!t.right)).reverse from fun wx=>by rw [hn,hi];exact QjO i n wx (by omega) (by omega))
 obtain ⟨m,hm⟩:∃ m,(Qfo p).length=m:=⟨_,rfl⟩;have HM:=hid (show (((QaJ i n 0).map (fun t=>!t.right)).reverse).length=m by rw [← hm];unfold Qfo;rw [hn,hi];simp)
 rw [hm] at j;have aC:=hid (show Bd w w1.drew from z.out.drew);have D:=hid (show ∀ wx,Bd w1 wx→Row wx w.heap.size 42 [Bb p.index,Bb p.size,.slice o1 p.key.length c1,.slice o2 p.val.length c2,.slice o3 p.path.length c3] from fun wx hx=>C.out.below hx (by omega))
 have HG:=hid (show 1≤p.size∧p.size≤200∧0≤p.index∧p.index<p.size by omega)
 clear hn hi hm g1 g2 g3 g4
 by_cases g5:60<p.key.length
 ·have e5:decide ((60:Int)<(p.key.length:Int))=true:=by simp;omega
  go_wp2_with fail
  go_region
  go_wp2;go_ret;exact ⟨aC.out,Yj.no (fun h=>by have h:=j.out.1 h;omega)⟩
 have e5:decide ((60:Int)<(p.key.length:Int))=false:=by simp;omega
 by_cases g6:200<p.val.length
 ·have e6:decide ((200:Int)<(p.val.length:Int))=true:=by simp;omega
  go_wp2_with fail
  go_region
  go_wp2;go_ret;exact ⟨aC.out,Yj.no (fun h=>by have h:=j.out.1 h;omega)⟩
 have e6:decide ((200:Int)<(p.val.length:Int))=false:=by simp;omega
 have aH:=hid (show ∀ w5:World,Bd w w5→Bd w1 w5→Calls prog 222 #[.slice o3 p.path.length c3,.func (.func 223) #[] #[]] w5 fun e w'=>w'=w5∧∃ b,e=.returned (.bool b)∧(b=true↔∃ d∈p.path,d.length≠32) from fun w5 _ hx=>Qkn p.path _ N w5 (HP.below (hx.mono (by omega))) aK)
 have aD:=hid (show p.key.length≤60∧p.val.length≤200 by omega)
 generalize aI:p.path.length=mp at *;clear aI g5 g6;have aF:=hid O;have S:=hid (show ∀ W,Bd w1 W→(W.cell? ⟨w.heap.size,0,none⟩=some (Bb p.index)∧W.cell? ⟨w.heap.size,1,none⟩=some (Bb p.size))∧(W.cell? ⟨w.heap.size,2,none⟩=some (.slice o1 p.key.length c1)∧W.cell? ⟨w.heap.size,3,none⟩=some (.slice o2 p.val.length c2))∧W.cell? ⟨w.heap.size,4,none⟩=some (.slice o3 mp c3) from fun wx hx=>⟨⟨(D.out wx hx).cell 0,(D.out wx hx).cell 1⟩,⟨(D.out wx hx).cell 2,(D.out wx hx).cell 3⟩,(D.out wx hx).cell 4⟩)
 have s1d:=S.out w1.drew (Bi _ _).drew;clear O
 by_cases M:mp=m
 ·subst M
  have e7:((mp:Int) != (mp:Int))=false:=by simp
  go_wp2_with fail
  go_region_held3 (fun W=>(W.cell? ⟨w.heap.size,0,none⟩=some (Bb p.index)∧W.cell? ⟨w.heap.size,1,none⟩=some (Bb p.size))∧(W.cell? ⟨w.heap.size,2,none⟩=some (.slice o1 p.key.length c1)∧W.cell? ⟨w.heap.size,3,none⟩=some (.slice o2 p.val.length c2))∧W.cell? ⟨w.heap.size,4,none⟩=some (.slice o3 mp c3)) (first | assumption) (first | (go_at_call 221;refine (aE.out w1.drew).mono ?_;rintro e w2 ⟨E,v2,rfl,G⟩;obtain ⟨o4,c4,L,_⟩:=G.shape;rw [HM.out] at L;subst L;have A:=hid (show Bd w1 w2 from (show Bd w1 w1.drew from (Bi _ _).drew).trans E);have s2:=S.out w2 A.out;clear E G))
  all_goals
   have q:=hid (z.out.trans (A.out.mono (by have:=aF.out;omega)))
   go_wp2_with fail
   refine (aH.out w2 q.out A.out).mono ?_;rintro e w3 ⟨aL,b,rfl,hb⟩;obtain rfl:=aL.symm;have aB:=hid hb;clear hb
   cases b with
   | true =>
    go_wp2;go_ret;obtain ⟨d,hd,aJ⟩:=aB.out.1 (by trivial)
    exact ⟨q.out,Yj.no (fun h=>by have h:=j.out.1 h;exact aJ (h.2.2.2.2.2.2.2 d hd))⟩
   | false =>
    go_wp2;go_ret;refine ⟨q.out,Yj.yes (j.out.2 ⟨HG.out.1,HG.out.2.1,HG.out.2.2.1,HG.out.2.2.2,aD.out.1,aD.out.2,by trivial,fun d hd=>?_⟩)⟩
    by_cases aG:d.length=32
    ·exact aG
    ·exact absurd (aB.out.2 ⟨d,hd,aG⟩) (by simp)
 ·have e7:((mp:Int) != (m:Int))=true:=by simp;omega
  go_wp2_with fail
  go_region_held3 (fun W=>(W.cell? ⟨w.heap.size,0,none⟩=some (Bb p.index)∧W.cell? ⟨w.heap.size,1,none⟩=some (Bb p.size))∧(W.cell? ⟨w.heap.size,2,none⟩=some (.slice o1 p.key.length c1)∧W.cell? ⟨w.heap.size,3,none⟩=some (.slice o2 p.val.length c2))∧W.cell? ⟨w.heap.size,4,none⟩=some (.slice o3 mp c3)) (first | assumption) (first | (go_at_call 221;refine (aE.out w1.drew).mono ?_;rintro e w2 ⟨E,v2,rfl,G⟩;obtain ⟨o4,c4,L,_⟩:=G.shape;rw [HM.out] at L;subst L;have A:=hid (show Bd w1 w2 from (show Bd w1 w1.drew from (Bi _ _).drew).trans E);have s2:=S.out w2 A.out;clear E G))
  all_goals
   have q:=hid (z.out.trans (A.out.mono (by have:=aF.out;omega)))
   go_wp2;go_ret;exact ⟨q.out,Yj.no (fun h=>by have h:=j.out.1 h;exact M h.2.2.2.2.2.2.1)⟩
theorem Z9.one {base:Nat} (hy:Qq w base v l) (hb:base≤w.heap.size) (w1:World) (hw:w.alloc (.cells #[v] 29)=w1):Z9 w1 base (.slice (some ⟨w.heap.size,0,none⟩) 1 1) [l]:=by
 subst hw;refine ⟨[⟨v,l⟩],rfl,⟨rfl,.inr ⟨w.heap.size,1,#[v],rfl,hb,BT w _,Bj _,by unfold maxLen;decide,rfl,rfl⟩⟩,fun q hq=>?_⟩
 obtain rfl:q=⟨v,l⟩:=by simpa using hq
 exact Qq.alloc hy _
theorem Z9.get {base:Nat} {b:Nat} (h:Z9 w base (.slice oa n b) ls) (i:Nat) (l:Bg) (hi:ls[i]?=some l):∃ g y,oa=some ⟨g,0,none⟩∧w.cell? ⟨g,i,none⟩=some y∧Qq w base y l:=by
 obtain ⟨ys,rfl,⟨h1,h2⟩,h3⟩:=h;obtain ⟨y,hy,rfl⟩:∃ y,ys[i]?=some y∧y.l=l:=by simpa using hi
 have j:i<ys.length:=(Bm.1 hy).1
 rcases h2 with ⟨_,h0⟩ | ⟨g,c,d,hv,hb,hg,hn,hm,hc,hx⟩
 ·omega
 ·simp at hv
  refine ⟨g,y.v,hv.1,?_,h3 y (Bn hy)⟩;rw [CD w g _ d _ _ hg,← Dn];have e:=Bl (fun l:List Value=>l[i]?) hx
  simp only [BE,Dm] at e;rw [if_pos j] at e;rw [e,Bt,hy];rfl
theorem Qnv (p:Prf) (v:Value) (N:Nat) (w:World) (hT:Qi w) (hN:N≤w.heap.size) (hp:Qd3 w N v p) (h1:1≤p.size) (h2:p.size≤200) (h3:0≤p.index) (h4:p.index<p.size) (h5:p.key.length≤60) (h6:p.val.length≤200) (h7:p.path.length=(Qfo p).length) (h8:∀ d∈p.path,d.length=32) :
  Calls prog 190 #[v] w fun e w'=>Bd w w'∧∃ r,e=.returned r∧Z9 w' w.heap.size r (QpW p):=by
 obtain ⟨kv,vv,pv,rfl,hk,hv,az⟩:=hp;obtain ⟨o1,c1,rfl,_⟩:=hk.shape;obtain ⟨o2,c2,rfl,_⟩:=hv.shape;obtain ⟨o3,c3,rfl,_⟩:=az.shape;obtain ⟨w1,bA⟩:∃ w1,w.alloc (.cells #[Bb p.index,Bb p.size,.slice o1 p.key.length c1,.slice o2 p.val.length c2,.slice o3 p.path.length c3] 42)=w1:=⟨_,rfl⟩;have hsz1:w1.heap.size=w.heap.size+1:=by rw [← bA];simp
 have aJ:=bof bA;have M:Row w1 w.heap.size 42 [Bb p.index,Bb p.size,.slice o1 p.key.length c1,.slice o2 p.val.length c2,.slice o3 p.path.length c3]:=by rw [← bA];exact Row.new _ _ _
 have bY:=hid aJ;have HT:=hT.past aJ;have b4:=az.below (aJ.mono hN);have am:∀ wx,Bd w1 wx→Row wx w.heap.size 42 [Bb p.index,Bb p.size,.slice o1 p.key.length c1,.slice o2 p.val.length c2,.slice o3 p.path.length c3]:=fun wx hx=>M.below hx (by omega)
 have bJ:=QiL p.key p.val (.slice o1 p.key.length c1) (.slice o2 p.val.length c2) N w1 (by omega) (hk.below (aJ.mono hN)) (hv.below (aJ.mono hN)) (by omega) (by omega)
 have q2:=M.cell 2;have q3:=M.cell 3;obtain ⟨n,hn⟩:∃ n:Nat,p.size=(n:Int):=⟨p.size.toNat,by omega⟩
 obtain ⟨i,hi⟩:∃ i:Nat,p.index=(i:Int):=⟨p.index.toNat,by omega⟩
 obtain ⟨ws,ad⟩:∃ ws,Qfo p=ws:=⟨_,rfl⟩;have bC:QaJ i n 0=ws:=by rw [← ad];unfold Qfo;rw [hn,hi];rfl
 have ar:ws.length≤200:=by rw [← bC];have:=Qdh n i 0;omega
 have bP:∀ wx:World,Calls prog 221 #[Bb p.index,Bb p.size] wx fun e w'=>Bd wx w'∧∃ v,e=.returned v∧Qaa w' wx.heap.size v (ws.map (fun t=>!t.right)).reverse:=fun wx=>by rw [hn,hi,← bC];exact QjO i n wx (by omega) (by omega)
 have b3:QpW p=QkV n (upD ws p.path.reverse (ZN p.key p.val)) :: QhC ws p.path.reverse (QaZ p.key p.val):=by unfold QpW;rw [ad,hn];rfl
 rw [ad] at h7;have H7:=hid h7;have H8:=hid h8;have bQ:=hid hn;have bI:p.key.length≤60∧p.val.length≤200∧n≤200:=by omega
 clear hk hv az aJ M hT ad bC hn hi h1 h2 h3 h4 h5 h6 h7 h8
 go_in
 go_wp2_with fail
 refine bJ.mono ?_;rintro e w2 ⟨o4,n4,c4,rfl,aH,aw⟩;have bV:=aw.size;obtain ⟨w3,bB⟩:∃ w3,w2.alloc (.cells #[.slice o4 n4 c4] 29)=w3:=⟨_,rfl⟩;have a7:=bof bB;have bd:=a7.size;have b0:=Z9.one aH bV w3 bB;have bF:=aw.trans (a7.mono bV);have q:=(show Row w3 w2.heap.size 29 [.slice o4 n4 c4] by rw [← bB];exact Row.new _ _ _).cell 0
 have aA:=hid (Qs5 _ _ w3.heap.size w3 (Bj _) ((aH.bytes.below a7).mono bd) (HT.past bF) (by have:=bI;simp [JU];omega))
 clear aH aw a7 bJ
 go_wp2_with fail
 refine aA.out.mono ?_;rintro e w4 ⟨o5,c5,rfl,aW,a8⟩;have hz4:=a8.size;have bG:=hid (bF.trans (a8.mono (by omega)))
 have b1:=hid (b0.below a8);have b6:=aW.mono (show w1.heap.size≤w3.heap.size by omega)
 have bM:=hid (am w4 bG.out);have r0:=bM.out.cell 0;have r1:=bM.out.cell 1;clear aW a8 aA q q2 q3
 go_wp2_with fail
 refine (bP w4).mono ?_;rintro e w5 ⟨a9,sv,rfl,ay⟩;obtain ⟨o6,c6,bT,_⟩:=ay.shape;rw [DR,Bp] at bT;subst bT;have bZ:=bG.out.trans (a9.mono (by omega))
 have b2:=b1.out.below a9;have b7:=hid (b6.below a9);have b5:=hid ay;clear a9 ay bP r0 r1;generalize hm:ws.length=m at *;have HM:=hid hm;have hm200:m≤200:=ar;clear hm
 go_wp2_with fail
 go_loopw [3,4,25] (fun s3 s4 bD wr=>∃ k:Nat,k≤m∧bD=Bb (k:Int)∧Hid (Bd w1 wr∧Z9 wr w1.heap.size s3 (QcF ws p.path k (QaZ p.key p.val))∧Qq wr w1.heap.size s4 (upK ws p.path k (ZN p.key p.val))∧Qaa wr w4.heap.size (.slice o6 m c6) (ws.map (fun t=>!t.right)).reverse)) (fun _ _ bD _=>m-(intOf bD).toNat)
 case atStart=>exact ⟨0,BH _,rfl,hid ⟨bZ,by rw [QpV];exact b2,by rw [Qtj];exact b7.out,b5.out⟩⟩
 case round =>
  obtain ⟨k,hk,rfl,HR⟩:=hrel
  by_cases aK:k<m
  ·have aY:=HR.out.1.size
   have a6:=hid (am wr HR.out.1);have r4:=a6.out.cell 4;obtain ⟨b,o,bc,hc⟩:=b4.some (by rw [H7.out];omega)
   obtain ⟨hbN,x,hx,aa⟩:=hc k (by rw [H7.out];exact aK)
   subst bc;obtain ⟨d,hd⟩:∃ d,p.path.getD k []=d:=⟨_,rfl⟩;have ab:p.path[k]?=some d:=by rw [← hd];exact getD_some _ _ _ (by rw [H7.out];exact aK)
   rw [hd] at aa;have av:=H8.out d (Bn ab);obtain ⟨od,cd,rfl,_⟩:=aa.shape;have f0:=(HR.out.1.cell (p:=⟨b,o+k,none⟩) (show b<w1.heap.size by omega)).trans hx
   have ai:=aa.below (HR.out.1.mono (show N≤w1.heap.size by omega))
   obtain ⟨t,ht⟩:∃ t,ws[m-1-k]?=some t:=⟨ws[m-1-k]'(by rw [HM.out];omega),Bk _⟩
   obtain ⟨gs,bb,_,_,bS⟩:=HR.out.2.2.2.get (by omega)
   subst bb
   have k0:=bS k (!t.right) (by
    rw [List.getElem?_reverse (by rw [Bp,HM.out];exact aK),Bp,HM.out,Bt,ht]
    rfl)
   have aG:=Qti ws p.path k (ZN p.key p.val) t d (by rw [HM.out];exact ht) (by rw [HM.out];exact aK) ab
   have Y:=QpU ws p.path k (QaZ p.key p.val) t d (by rw [HM.out];exact ht) (by rw [HM.out];exact aK) ab
   rw [show sha (QaZ p.key p.val)=ZN p.key p.val from rfl] at Y;obtain ⟨u,hu⟩:∃ u,upK ws p.path k (ZN p.key p.val)=u:=⟨_,rfl⟩;have aD:u.length=32:=by rw [← hu];exact Qo1 _ _ _ _ (by unfold ZN;exact QQ _)
   rw [hu] at aG Y;have a4:=hid HR.out.1;have a5:=hid HR.out.2.1;have aT:Qq wr w1.heap.size u4 u:=by rw [← hu];exact HR.out.2.2.1
   have bN:=hid HR.out.2.2.2
   have aQ:=hid (show (QcF ws p.path k (QaZ p.key p.val)).length≤1000000 by
    unfold QcF;rw [DR,Qaj _ _ _ (by simp;have:=H7.out;have:=HM.out;omega),Df]
    omega)
   obtain ⟨oy,cy,bU,_⟩:=aT.shape;rw [aD] at bU;subst bU;rw [av] at f0 ai;have bK:=hid aK;have hltp:(k:Int)<(p.path.length:Int):=by rw [H7.out];omega
   have a3:=hid (QdP d u (.slice od 32 cd) (.slice oy 32 cy) wr.heap.size wr (Bj _) (ai.mono (by omega)) aT.bytes (by omega) (by omega))
   have bH:=hid (show ∀ wx,Bd wr wx→Calls prog 225 #[.slice oy 32 cy,.slice od 32 cd] wx fun e w'=>∃ oa n bR,e=.returned (.slice oa n bR)∧Qq w' wx.heap.size (.slice oa n bR) (ZE u d)∧Bd wx w' from fun wx hx=>by
    have:=hx.size
    exact QdP u d (.slice oy 32 cy) (.slice od 32 cd) wx.heap.size wx (Bj _) ((aT.bytes.below hx).mono hx.size) ((ai.below (hx.mono (by omega))).mono (by omega)) (by omega) (by omega))
   have E:w1.heap.size≤wr.heap.size:=aY
   have bO:=hid (show ∀ wx,Bd wr wx→wx.cell? ⟨w.heap.size,4,none⟩=some (.slice (some ⟨b,o,none⟩) p.path.length c3)∧wx.cell? ⟨b,o+k,none⟩=some (.slice od 32 cd) from fun wx hx =>
    ⟨(a6.out.below hx (by omega)).cell 4,(hx.cell (p:=⟨b,o+k,none⟩) (show b<wr.heap.size by omega)).trans f0⟩)
   have bE:=hid av;have af:=hid aD;clear hc hx aa hd ab ht bS hu av aD HR
   cases ac:t.right with
   | true =>
    rw [ac] at k0 aG Y;have al:=hid (show QcF ws p.path (k+1) (QaZ p.key p.val)=QcF ws p.path k (QaZ p.key p.val) ++ [ZE d u] from Y);have aq:=hid (show upK ws p.path (k+1) (ZN p.key p.val)=sha (ZE d u) from aG);have au:=hid (show (ZE d u).length≤1000000 by rw [QjC,bE.out,af.out];decide)
    clear ac aG Y
    go_wp2_with fail
    refine a3.out.mono ?_;rintro e w6 ⟨o7,n7,c7,rfl,A,C⟩;have bW:=C.size;have aM:=hid (show Qq w6 w1.heap.size (.slice o7 n7 c7) (ZE d u) from A.mono E);have S:=hid (a4.out.trans (C.mono E));have aO:=hid (a5.out.below C);have an:=hid (bN.out.below C);clear A C a3;obtain ⟨w8,aE⟩:∃ w8,w6.alloc (.cells #[.slice o7 n7 c7] 29)=w8:=⟨_,rfl⟩;have j:=bof aE;have hz8:=j.size;have aR:=hid (QiM aE);have aP:=hid (aO.out.below j);have aF:=hid (aM.out.below j);have ao:=hid (an.out.below j);have T:=hid (S.out.trans (j.mono (show w1.heap.size≤w6.heap.size from S.out.size)));have aC:w1.heap.size≤w8.heap.size:=T.out.size;clear j
    go_wp2_with (at_builtin;refine Qas rfl (.tmp 45) (.tmp 47) rfl w1.heap.size _ _ rfl aP.out w6.heap.size (.slice o7 n7 c7) _ rfl aR.out aF.out aQ.out aC ?_;intro v9 w9 I aB L;have aS:=hid I;have G:=hid (T.out.trans aB);have ap:=hid (show Qaa w9 _ _ _ from L.owns ao.out (by decide));have aj:=hid (show Qq w9 _ _ _ from L.owns aF.out (by decide));obtain ⟨o9,c9,aZ,_⟩:=I.shape;generalize (QcF ws p.path k (QaZ p.key p.val) ++ [ZE d u]).length=n9 at aZ;subst aZ;clear I aB L)
    have aA:=hid (Qs5 (ZE d u) (.slice o7 n7 c7) w9.heap.size w9 (Bj _) aj.out.bytes (HT.past G.out) au.out)
    go_wp2_with fail
    refine aA.out.mono ?_;rintro e bX ⟨be,ba,rfl,D,z⟩;have aI:=G.out.size;have aV:=hid (D.mono aI);have O:=hid (G.out.trans (z.mono aI));have aN:=hid (aS.out.below z);have aU:=hid (ap.out.below z);clear D z aA
    go_wp2_with fail
    exact ⟨⟨k+1,bK.out,by go_num,hid ⟨O.out,by rw [al.out];exact aN.out,by rw [aq.out];exact aV.out,aU.out⟩⟩,by simp [intOf];omega⟩
   | false =>
    rw [ac] at k0 aG Y;have al:=hid (show QcF ws p.path (k+1) (QaZ p.key p.val)=QcF ws p.path k (QaZ p.key p.val) ++ [ZE u d] from Y);have aq:=hid (show upK ws p.path (k+1) (ZN p.key p.val)=sha (ZE u d) from aG);have au:=hid (show (ZE u d).length≤1000000 by rw [QjC,bE.out,af.out];decide)
    clear ac aG Y
    go_wp2_with fail
    refine a3.out.mono ?_;rintro e w6 ⟨o7,n7,c7,rfl,A,C⟩;have bW:=C.size;have ae:=hid C;have s6:=bO.out w6 C;clear A a3
    go_wp2_with fail
    refine (bH.out w6 ae.out).mono ?_;rintro e w7 ⟨o8,n8,c8,rfl,aX,j⟩;have aL:=hid (ae.out.trans (j.mono bW));have aM:=hid (show Qq w7 w1.heap.size (.slice o8 n8 c8) (ZE u d) from aX.mono (by have:=E;omega))
    have S:=hid (a4.out.trans (aL.out.mono E));have aO:=hid (a5.out.below aL.out);have an:=hid (bN.out.below aL.out);clear aX j C;obtain ⟨w8,aE⟩:∃ w8,w7.alloc (.cells #[.slice o8 n8 c8] 29)=w8:=⟨_,rfl⟩;have j:=bof aE;have aR:=hid (QiM aE);have aP:=hid (aO.out.below j);have aF:=hid (aM.out.below j);have ao:=hid (an.out.below j);have T:=hid (S.out.trans (j.mono (show w1.heap.size≤w7.heap.size from S.out.size)));have aC:w1.heap.size≤w8.heap.size:=T.out.size;clear j
    go_wp2_with (at_builtin;refine Qas rfl (.tmp 45) (.tmp 47) rfl w1.heap.size _ _ rfl aP.out w7.heap.size (.slice o8 n8 c8) _ rfl aR.out aF.out aQ.out aC ?_;intro v9 w9 I aB L;have aS:=hid I;have G:=hid (T.out.trans aB);have ap:=hid (show Qaa w9 _ _ _ from L.owns ao.out (by decide));have aj:=hid (show Qq w9 _ _ _ from L.owns aF.out (by decide));obtain ⟨o9,c9,aZ,_⟩:=I.shape;generalize (QcF ws p.path k (QaZ p.key p.val) ++ [ZE u d]).length=n9 at aZ;subst aZ;clear I aB L)
    have aA:=hid (Qs5 (ZE u d) (.slice o8 n8 c8) w9.heap.size w9 (Bj _) aj.out.bytes (HT.past G.out) au.out)
    go_wp2_with fail
    refine aA.out.mono ?_;rintro e bX ⟨be,ba,rfl,D,z⟩;have aI:=G.out.size;have aV:=hid (D.mono aI);have O:=hid (G.out.trans (z.mono aI));have aN:=hid (aS.out.below z);have aU:=hid (ap.out.below z);clear D z aA
    go_wp2_with fail
    exact ⟨⟨k+1,bK.out,by go_num,hid ⟨O.out,by rw [al.out];exact aN.out,by rw [aq.out];exact aV.out,aU.out⟩⟩,by simp [intOf];omega⟩
  ·have hge:decide ((k:Int)<(m:Int))=false:=by simp;omega
   have ax:k=m:=by omega
   have aY:=HR.out.1.size;have a6:=hid (am wr HR.out.1);have r1:=a6.out.cell 1;obtain ⟨u,hu⟩:∃ u,upK ws p.path k (ZN p.key p.val)=u:=⟨_,rfl⟩;have aD:u.length=32:=by rw [← hu];exact Qo1 _ _ _ _ (by unfold ZN;exact QQ _)
   have a4:=hid HR.out.1;have a5:=hid HR.out.2.1;have aT:=hid (show Qq wr w1.heap.size u4 u by rw [← hu];exact HR.out.2.2.1)
   have b9:=hid (show u=upD ws p.path.reverse (ZN p.key p.val) by
    rw [← hu,ax,← HM.out]
    exact QuB ws p.path _ (by rw [H7.out,HM.out]))
   have ak:=hid (show QcF ws p.path k (QaZ p.key p.val)=(QhC ws p.path.reverse (QaZ p.key p.val)).reverse by
    rw [ax,← HM.out]
    exact QrZ ws p.path _ (by rw [H7.out,HM.out]))
   have aQ:=hid (show (QcF ws p.path k (QaZ p.key p.val)).length≤1000000 by
    rw [ak.out,DR,Qaj _ _ _ (by rw [DR,H7.out,HM.out])]
    have:=ar;have:=HM.out
    omega)
   have ah:=hid (QdH n u u4 wr.heap.size wr (Bj _) aT.out.bytes (by have:=bI;omega) (by omega))
   rw [← bQ.out] at ah;have E:=hid (show w1.heap.size≤wr.heap.size from aY);clear HR ax hu aD
   go_wp2_with fail
   refine ah.out.mono ?_;rintro e w6 ⟨o7,n7,c7,rfl,A,C⟩;have aM:=hid (show Qq w6 w1.heap.size (.slice o7 n7 c7) (QkV n u) from A.mono E.out);have S:=hid (a4.out.trans (C.mono E.out));have aO:=hid (a5.out.below C);obtain ⟨w8,aE⟩:∃ w8,w6.alloc (.cells #[.slice o7 n7 c7] 29)=w8:=⟨_,rfl⟩;have j:=bof aE;have aR:=hid (QiM aE);have aP:=hid (aO.out.below j);have aF:=hid (aM.out.below j);have T:=hid (S.out.trans (j.mono (show w1.heap.size≤w6.heap.size from S.out.size)));have aC:w1.heap.size≤w8.heap.size:=T.out.size;clear j A C ah
   go_wp2_with (at_builtin;refine Qas rfl (.tmp 52) (.tmp 57) rfl w1.heap.size _ _ rfl aP.out w6.heap.size (.slice o7 n7 c7) _ rfl aR.out aF.out aQ.out aC ?_;intro v9 w9 I aB L;have aS:=hid I;have G:=hid (T.out.trans aB);clear I aB L)
   have aI:=G.out.size;refine (QsK _ v9 w1.heap.size w9 aS.out aI (by rw [Bs];have:=aQ.out;have:=ar;rw [ak.out,DR,Qaj _ _ _ (by rw [DR,H7.out,HM.out])];have:=HM.out;simp;omega)).mono ?_
   rintro e bX ⟨rfl,ag,z,_⟩;have bL:=hid ag;have O:=hid (G.out.trans z);clear ag z;go_wp2;go_ret;refine ⟨bY.out.trans (O.out.mono (by omega)),_,rfl,?_⟩
   have h:=bL.out.mono (show w.heap.size≤w1.heap.size by omega)
   rw [ak.out,b9.out,List.reverse_append,Eq,List.reverse_reverse,Er] at h;rw [b3];exact h
def QuY (f:FuncId):Prop:=∀ (r:Bg) (p:Prf) (rv v:Value) (N:Nat) (w:World),Qi w→N≤w.heap.size→Bytes w N rv r→Qd3 w N v p→p.fits→r.length≤140737488351232 →
 Calls prog f #[rv,v] w fun e w'=>Bd w w'∧Yj (JX r p) e
def Qtn (f:FuncId):Prop:=∀ (r k:Bg) (g:Gp) (rv kv v:Value) (N:Nat) (w:World),Qi w→N≤w.heap.size→Bytes w N rv r→Bytes w N kv k→GpV w N v g→g.fits→r.length≤140737488351232→k.length≤140737488351232 →
 Calls prog f #[rv,kv,v] w fun e w'=>Bd w w'∧Yj (QaA r k g) e
theorem Qh7 (r:Bg) (p:Prf):JX r p↔QlA p∧sha (QkV p.size.toNat (upD (Qfo p) p.path.reverse (ZN p.key p.val)))=r:=by
 unfold JX QlA
 constructor
 ·rintro ⟨a,b,c,d,e,f,g,h,i⟩
  exact ⟨⟨a,b,c,d,e,f,g,h⟩,i⟩
 ·rintro ⟨⟨a,b,c,d,e,f,g,h⟩,i⟩
  exact ⟨a,b,c,d,e,f,g,h,i⟩
theorem Qn2: QuY 145:=by
 intro r p rv v N w hT hN hr hp hf hrl;obtain ⟨aK,cr,rfl,_⟩:=hr.shape;have L:=hid hp;obtain ⟨kv,vv,pv,rfl,hk,hv,aI⟩:=hp;obtain ⟨o1,c1,rfl,_⟩:=hk.shape;obtain ⟨o2,c2,rfl,_⟩:=hv.shape;obtain ⟨o3,c3,rfl,_⟩:=aI.shape;obtain ⟨w1,D⟩:∃ w1,w.alloc (.cells #[Bb p.index,Bb p.size,.slice o1 p.key.length c1,.slice o2 p.val.length c2,.slice o3 p.path.length c3] 42)=w1:=⟨_,rfl⟩;have hsz1:w1.heap.size=w.heap.size+1:=by rw [← D];simp
 have O:=bof D;have b:Row w1 w.heap.size 42 [Bb p.index,Bb p.size,.slice o1 p.key.length c1,.slice o2 p.val.length c2,.slice o3 p.path.length c3]:=by rw [← D];exact Row.new _ _ _
 have G:=QrE p _ N w1 (by omega) (L.out.below (O.mono hN)) hf
 have aF:∀ wx,Bd w1 wx→Row wx w.heap.size 42 [Bb p.index,Bb p.size,.slice o1 p.key.length c1,.slice o2 p.val.length c2,.slice o3 p.path.length c3]:=fun wx hx=>b.below hx (by omega)
 have q0:=b.cell 0;have q1:=b.cell 1;have q2:=b.cell 2;have q3:=b.cell 3;have q4:=b.cell 4;generalize hrn:r.length=rn at *
 go_in
 go_wp2_with fail
 refine G.mono ?_;rintro e w2 ⟨A,bb,rfl,T⟩;have E:=hid T;have hz2:=A.size;have d:=O.trans (A.mono (by omega))
 have j:=hid (aF w2 A);have r0:=j.out.cell 0;have r1:=j.out.cell 1;have r2:=j.out.cell 2;have r3:=j.out.cell 3;have r4:=j.out.cell 4;clear T G q0 q1 q2 q3 q4
 cases bb with
 | false =>
  go_wp2;go_ret;exact ⟨d,Yj.no (fun h=>absurd (E.out.2 ((Qh7 r p).1 h).1) (by simp))⟩
 | true =>
  have Y:QlA p:=E.out.1 rfl;have aD:=hid Y;obtain ⟨f1,f2,f3,f4,f5,f6,f7,f8⟩:=Y;have aE:=hid (Qnv p _ N w2 (hT.past d) (by omega) (L.out.below (d.mono hN)) f1 f2 f3 f4 f5 f6 f7 f8)
  have I:=QlR p f7
  have M:=hid (show (QkV p.size.toNat (upD (Qfo p) p.path.reverse (ZN p.key p.val))).length≤1000000 by
   rw [Qta,QoZ _ _ _ (by unfold ZN;exact QQ _)]
   decide)
  clear f1 f2 f3 f4 f5 f6 f7 f8
  go_wp2_with fail
  refine aE.out.mono ?_;rintro e w3 ⟨S,lv,rfl,aB⟩;have hz3:=S.size;obtain ⟨o5,c5,aA,_⟩:=aB.shape;rw [I] at aA;subst aA;obtain ⟨g,y,hg,hy,m⟩:=aB.get 0 _ (show (QpW p)[0]?=some (QkV p.size.toNat (upD (Qfo p) p.path.reverse (ZN p.key p.val))) from rfl);subst hg;obtain ⟨o6,c6,rfl,_⟩:=m.shape;obtain ⟨x,hx⟩:∃ x,QkV p.size.toNat (upD (Qfo p) p.path.reverse (ZN p.key p.val))=x:=⟨_,rfl⟩;rw [hx] at hy m M;have q:=hid (d.trans (S.mono (by omega)))
  have aG:=Qs5 x _ w3.heap.size w3 (Bj _) m.bytes (hT.past q.out) M.out;generalize x.length=nx at *
  go_wp2_with fail
  refine aG.mono ?_;rintro e w4 ⟨o7,c7,rfl,C,aH⟩;have z:=q.out.trans (aH.mono (by omega))
  have aC:=hid (YB (sha x) r (.slice o7 32 c7) (.slice aK rn cr) w4.heap.size N w4 C.bytes (hr.below (z.mono hN)))
  go_wp2_with fail
  refine aC.out.mono ?_;rintro e w5 ⟨rfl,aJ⟩;obtain rfl:=aJ.symm;go_wp2;go_ret;refine ⟨z,_,rfl,?_⟩;rw [D1,Qh7,hx];exact ⟨fun h=>⟨aD.out,h⟩,fun h=>h.2⟩
def QsY (g:Gp):Prop:=(g.hasL=true→g.hasR=true→g.right.size=g.left.size∧g.left.index+1=g.right.index)∧(g.hasL=true→g.hasR=false→g.left.index+1=g.left.size)∧(g.hasL=false→g.hasR=true→g.right.index=0)
theorem Qh8 (g:Gp) (a1 a2 a3 a4 a5 a6:Option Addr) (b1 b2 b3 b4 b5 b6:Nat) (w:World) (q:g.hasL=true∨g.hasR=true) (hl:g.hasL=true→1≤g.left.size∧g.left.size≤200∧0≤g.left.index∧g.left.index<g.left.size) :
  Calls prog 239 #[.agg #[.bool g.hasL,.bool g.hasR,Bb g.left.index,Bb g.left.size,.slice a1 g.left.key.length b1,.slice a2 g.left.val.length b2,.slice a3 g.left.path.length b3,Bb g.right.index,Bb g.right.size,.slice a4 g.right.key.length b4,.slice a5 g.right.val.length b5,.slice a6 g.right.path.length b6]] w fun e w'=>Bd w w'∧Yj (QsY g) e:=by
 obtain ⟨w1,m⟩:∃ w1,w.alloc (.cells #[.bool g.hasL,.bool g.hasR,Bb g.left.index,Bb g.left.size,.slice a1 g.left.key.length b1,.slice a2 g.left.val.length b2,.slice a3 g.left.path.length b3,Bb g.right.index,Bb g.right.size,.slice a4 g.right.key.length b4,.slice a5 g.right.val.length b5,.slice a6 g.right.path.length b6] 44)=w1:=⟨_,rfl⟩;have j:=bof m;have b:Row w1 w.heap.size 44 [.bool g.hasL,.bool g.hasR,Bb g.left.index,Bb g.left.size,.slice a1 g.left.key.length b1,.slice a2 g.left.val.length b2,.slice a3 g.left.path.length b3,Bb g.right.index,Bb g.right.size,.slice a4 g.right.key.length b4,.slice a5 g.right.val.length b5,.slice a6 g.right.path.length b6]:=by rw [← m];exact Row.new _ _ _
 have q0:=b.cell 0;have q1:=b.cell 1;have q2:=b.cell 2;have q3:=b.cell 3;have q7:=b.cell 7;have q8:=b.cell 8;obtain ⟨L,hL⟩:∃ L,g.hasL=L:=⟨_,rfl⟩;obtain ⟨R,hR⟩:∃ R,g.hasR=R:=⟨_,rfl⟩;have d:=hid (show QsY g↔((L=true→R=true→g.right.size=g.left.size∧g.left.index+1=g.right.index)∧(L=true→R=false→g.left.index+1=g.left.size)∧(L=false→R=true→g.right.index=0)) by rw [← hL,← hR];exact Iff.rfl)
 rw [hL,hR] at q;rw [hL] at hl;rw [hL,hR] at m;rw [hL] at q0;rw [hR] at q1;rw [hL,hR]
 go_in
 cases R with
 | false =>
  obtain rfl:L=true:=by simpa using q
  have z:=hl rfl;go_wp2;go_ret;refine ⟨j,_,rfl,?_⟩;rw [d.out];simp;omega
 | true =>
  cases L with
  | false =>
   go_wp2;go_ret;refine ⟨j,_,rfl,?_⟩;rw [d.out];simp
  | true =>
   have z:=hl rfl
   by_cases hs:g.left.size=g.right.size
   ·have e1:(g.left.size == g.right.size)=true:=by simpa using hs
    have HS:=hid hs;clear hs;go_wp2;go_ret;refine ⟨j,_,rfl,?_⟩;have:=HS.out;rw [d.out];simp;omega
   ·have e1:(g.left.size == g.right.size)=false:=by simpa using hs
    go_wp2;go_ret;refine ⟨j,Yj.no (fun h=>?_)⟩
    have:=(d.out.1 h).1 (by trivial) (by trivial)
    omega
theorem Qty: Qtn 207:=by
 intro r k g rv kv v N w hT hN hr hk hg hf aD hkl;obtain ⟨aP,cr,rfl,_⟩:=hr.shape;obtain ⟨ok,ck,rfl,_⟩:=hk.shape;obtain ⟨k1,v1,p1,k2,v2,p2,rfl,D,S,M,E,T,O⟩:=hg;obtain ⟨a1,b1,rfl,_⟩:=D.shape;obtain ⟨a2,b2,rfl,_⟩:=S.shape;obtain ⟨a3,b3,rfl,_⟩:=M.shape;obtain ⟨a4,b4,rfl,_⟩:=E.shape;obtain ⟨a5,b5,rfl,_⟩:=T.shape;obtain ⟨a6,b6,rfl,_⟩:=O.shape;have aK:=hid (fun W h1 h2=>Qh8 g a1 a2 a3 a4 a5 a6 b1 b2 b3 b4 b5 b6 W h1 h2)
 have A:=hid (show QaA r k g↔if g.hasL=false∧g.hasR=false then r=Qvh 0 [] else (g.hasL=true→JX r g.left∧Qau g.left.key k=true)∧(g.hasR=true→JX r g.right∧Qau k g.right.key=true)∧QsY g from Iff.rfl)
 have aL:=hid (fun W (hb:Bd w W)=>Qn2 r g.left _ _ N W (hT.past hb) (Bh hN hb.size) (hr.below (hb.mono hN)) ⟨_,_,_,rfl,D.below (hb.mono hN),S.below (hb.mono hN),M.below (hb.mono hN)⟩ hf.1 aD)
 have aN:=hid (fun W (hb:Bd w W)=>Qn2 r g.right _ _ N W (hT.past hb) (Bh hN hb.size) (hr.below (hb.mono hN)) ⟨_,_,_,rfl,E.below (hb.mono hN),T.below (hb.mono hN),O.below (hb.mono hN)⟩ hf.2 aD)
 have aG:=hid (fun W (hb:Bd w W)=>QfZ _ _ _ _ N N W (D.below (hb.mono hN)) (hk.below (hb.mono hN)))
 have aH:=hid (fun W (hb:Bd w W)=>QfZ _ _ _ _ N N W (hk.below (hb.mono hN)) (E.below (hb.mono hN)))
 have aJ:=hid hr;have HT:=hid hT;clear D S M E T O hT hr hk hf;generalize g.hasL=L at *;generalize g.hasR=R at *
 go_in
 go_upto_region 1 with fail
 refine JO ?_;intro w0 F hs;have HF:=hid F;clear F
 go_cut [14] (fun s wr=>s=.bool (!L && !R)∧Hid (Bd w0 wr∧True))
 case first =>
  have kc:=HF.out.r0.cell
  cases L <;> cases R
  all_goals
   go_wp2_with fail
   go_meet
   exact ⟨rfl,hid ⟨Bi _ _,trivial⟩⟩
 case rest =>
  obtain ⟨rfl,HB⟩:=hcut
  cases I:(!L && !R) with
  | true =>
   obtain ⟨rfl,rfl⟩:L=false∧R=false:=by simpa using I
   have aF:=hid (QdH 0 [] (Bc) wc.heap.size wc (Bj _) (.inl ⟨rfl,rfl⟩) (by decide) (by decide))
   go_wp2_with fail
   refine aF.out.mono ?_;rintro e w2 ⟨o2,n2,c2,rfl,q,j⟩;have d:=hid (HB.out.1.trans (j.mono HB.out.1.size));have aM:=hid (Qs5 _ (.slice o2 n2 c2) w2.heap.size w2 (Bj _) q.bytes (HT.out.past (HF.out.go d.out).b) (by decide))
   clear q j
   go_wp2_with fail
   refine aM.out.mono ?_;rintro e w3 ⟨o3,c3,rfl,z,aB⟩;have aA:=hgo d aB;have aI:=hid (YB _ r (.slice o3 32 c3) (.slice aP r.length cr) w3.heap.size N w3 z.bytes (aJ.out.below ((HF.out.go aA.out).b.mono hN)));clear z aB
   go_wp2_with fail
   refine aI.out.mono ?_;rintro e w4 ⟨rfl,aO⟩;obtain rfl:=aO.symm;go_wp2;go_ret;refine ⟨(HF.out.go aA.out).b,_,rfl,?_⟩;rw [D1,A.out,if_pos (by simp)]
   exact ⟨fun h=>h.symm,fun h=>h.symm⟩
  | false =>
   have C:=hid (show ¬ (L=false∧R=false) by rintro ⟨rfl,rfl⟩;simp at I)
   go_upto_region 3 with fail
   go_cut [35] (fun s wr=>∃ c,s=.bool c∧Hid (Bd w0 wr∧(c=false↔(L=true→JX r g.left∧Qau g.left.key k=true))))
   case first =>
    cases L with
    | false =>
     have kc:=(HF.out.go HB.out.1).r0.cell
     go_wp2_with fail
     go_meet
     exact ⟨false,rfl,hid ⟨HB.out.1,by simp⟩⟩
    | true =>
     have kc:=(HF.out.go HB.out.1).r0.cell
     go_wp2_with fail
     refine (aL.out _ (HF.out.go HB.out.1).b).mono ?_;rintro e w2 ⟨j,bb,rfl,m⟩;have d:=hid (HB.out.1.trans (j.mono HB.out.1.size));have HW:=hid m;clear kc j m;have kc:=(HF.out.go d.out).r0.cell
     cases bb with
     | false =>
      go_wp2_with fail
      go_meet
      exact ⟨true,rfl,hid ⟨d.out,⟨(fun h=>by cases h),fun h=>absurd (HW.out.2 (h (by simp)).1) (by simp)⟩⟩⟩
     | true =>
      cases hc:decide (Qkf g.left.key k<0)
      all_goals
       go_wp2_with fail
       refine (aG.out _ (HF.out.go d.out).b).mono ?_;rintro e wz ⟨rfl,Y⟩;obtain rfl:=Y.symm
       go_wp2_with fail
       go_meet
       exact ⟨_,rfl,hid ⟨d.out,by have:=HW.out.1 (by simp);have:=Qll g.left.key k;simp at hc;grind⟩⟩
   case rest =>
    clear HB I;obtain ⟨c,rfl,HB⟩:=hcut
    cases c with
    | true =>
     go_wp2;go_ret;refine ⟨(HF.out.go HB.out.1).b,Yj.no fun h=>?_⟩
     have h:=A.out.1 h;rw [if_neg C.out] at h;exact absurd (HB.out.2.2 h.1) (by simp)
    | false =>
     have HL:=hid (HB.out.2.1 (by simp))
     go_upto_region 5 with fail
     go_cut [52] (fun s wr=>∃ c,s=.bool c∧Hid (Bd w0 wr∧(c=false↔(R=true→JX r g.right∧Qau k g.right.key=true))))
     case first =>
      cases R with
      | false =>
       have kc:=(HF.out.go HB.out.1).r0.cell
       go_wp2_with fail
       go_meet
       exact ⟨false,rfl,hid ⟨HB.out.1,by simp⟩⟩
      | true =>
       have kc:=(HF.out.go HB.out.1).r0.cell
       go_wp2_with fail
       refine (aN.out _ (HF.out.go HB.out.1).b).mono ?_;rintro e w2 ⟨j,bb,rfl,m⟩;have d:=hid (HB.out.1.trans (j.mono HB.out.1.size));have HW:=hid m;clear kc j m;have kc:=(HF.out.go d.out).r0.cell
       cases bb with
       | false =>
        go_wp2_with fail
        go_meet
        exact ⟨true,rfl,hid ⟨d.out,⟨(fun h=>by cases h),fun h=>absurd (HW.out.2 (h (by simp)).1) (by simp)⟩⟩⟩
       | true =>
        cases hc:decide (Qkf k g.right.key<0)
        all_goals
         go_wp2_with fail
         refine (aH.out _ (HF.out.go d.out).b).mono ?_;rintro e wz ⟨rfl,Y⟩;obtain rfl:=Y.symm
         go_wp2_with fail
         go_meet
         exact ⟨_,rfl,hid ⟨d.out,by have:=HW.out.1 (by simp);have:=Qll k g.right.key;simp at hc;grind⟩⟩
     case rest =>
      clear HB;obtain ⟨c,rfl,HB⟩:=hcut
      cases c with
      | true =>
       go_wp2;go_ret;refine ⟨(HF.out.go HB.out.1).b,Yj.no fun h=>?_⟩
       have h:=A.out.1 h;rw [if_neg C.out] at h;exact absurd (HB.out.2.2 h.2.1) (by simp)
      | false =>
       have kc:=(HF.out.go HB.out.1).r0.cell
       go_wp2_with fail
       refine (aK.out wc (by have:=C.out;cases L <;> cases R <;> simp_all) (fun h=>⟨(HL.out h).1.1,(HL.out h).1.2.1,(HL.out h).1.2.2.1,(HL.out h).1.2.2.2.1⟩)).mono ?_
       rintro e we ⟨aC,be,rfl,G⟩;have HE:=hid G;have aE:=hid (HB.out.1.trans (aC.mono HB.out.1.size));clear aC G;go_wp2;go_ret;refine ⟨(HF.out.go aE.out).b,be,rfl,HE.out.trans ?_⟩;rw [A.out,if_neg C.out];exact ⟨fun h=>⟨HL.out,HB.out.2.1 (by simp),h⟩,fun h=>h.2.2⟩
def QT (c:Cl) (now height:Int) (P:Bg→Prop) (z:Int):Prop :=
 (QW c now≠0∧z=QW c now)∨(QW c now=0∧atK c.known height=none∧z=6)∨(QW c now=0∧∃ k,atK c.known height=some k∧((YJ c now=false∧z=11)∨(YJ c now=true∧((P k.root∧z=0)∨(¬ P k.root∧z=9)))))
theorem QT.eq {now height:Int} {P:Bg→Prop} {z:Int} (h:QT c now height P z) (g:QT c now height P ch):z=ch:=by
 rcases h with ⟨h1,rfl⟩ | ⟨h1,h2,rfl⟩ | ⟨h1,k,h2,h3⟩
 ·rcases g with ⟨_,rfl⟩ | ⟨g1,_⟩ | ⟨g1,_⟩
  ·rfl
  ·exact absurd g1 h1
  ·exact absurd g1 h1
 ·rcases g with ⟨g1,_⟩ | ⟨_,_,rfl⟩ | ⟨_,k,g2,_⟩
  ·exact absurd h1 g1
  ·rfl
  ·rw [h2] at g2;cases g2
 ·rcases g with ⟨g1,_⟩ | ⟨_,g2,_⟩ | ⟨_,k',g2,g3⟩
  ·exact absurd h1 g1
  ·rw [h2] at g2;cases g2
  ·rw [h2] at g2
   obtain rfl:k=k':=by simpa using g2
   rcases h3 with ⟨a1,rfl⟩ | ⟨a1,a2⟩
   ·rcases g3 with ⟨_,rfl⟩ | ⟨b1,_⟩
    ·rfl
    ·rw [a1] at b1;cases b1
   ·rcases g3 with ⟨b1,_⟩ | ⟨_,b2⟩
    ·rw [a1] at b1;cases b1
    ·rcases a2 with ⟨a3,rfl⟩ | ⟨a3,rfl⟩
     ·rcases b2 with ⟨_,rfl⟩ | ⟨b3,_⟩
      ·rfl
      ·exact absurd a3 b3
     ·rcases b2 with ⟨b3,_⟩ | ⟨_,rfl⟩
      ·exact absurd b3 a3
      ·rfl
theorem QT.frozen {now height:Int} {P:Bg→Prop} {z:Int} (h:QT c now height P z) (ha:QW c now=12):z=12:=by
 rcases h with ⟨_,rfl⟩ | ⟨h1,_⟩ | ⟨h1,_⟩
 ·exact ha
 ·omega
 ·omega
theorem Row.five {a b c d e:Value} (h:Row w g t [a,b,c,d,e]):w.cell? ⟨g,0,none⟩=some a∧w.cell? ⟨g,1,none⟩=some b∧w.cell? ⟨g,2,none⟩=some c∧w.cell? ⟨g,3,none⟩=some d∧w.cell? ⟨g,4,none⟩=some e :=
 ⟨h.cell 0,h.cell 1,h.cell 2,h.cell 3,h.cell 4⟩
theorem QlY (p:Prf) (key val root:Bg) (gp gk gv:Nat) (pv kv vv rv:Value) (N:Nat) (w:World) (z:Qi w) (hN:N≤w.heap.size) (hp:Qd3 w N pv p) (hk:Bytes w N kv key) (hv:Bytes w N vv val) (hr:Bytes w w.heap.size rv root) (hf:p.fits) (E:root.length≤140737488351232)
  (G:∃ cs,pv=.agg cs∧Row w gp 42 cs.toList) (D:Row w gk 29 [kv]) (I:Row w gv 29 [vv]) :
  Calls prog 143 #[rv,.pointer (some ⟨gp,0,none⟩),.pointer (some ⟨gk,0,none⟩),.pointer (some ⟨gv,0,none⟩)] w fun e w'=>Bd w w'∧Yj (p.key=key∧p.val=val∧JX root p) e:=by
 have HS:=Qn2 root p rv pv w.heap.size w z (Bj _) hr (hp.mono hN) hf E;obtain ⟨x1,x2,x3,rfl,h1,h2,h3⟩:=hp;have d:=YB p.key key x1 kv N N w h1 hk;have j:=YB p.val val x2 vv N N w h2 hv;obtain ⟨q1,y1,rfl,_⟩:=h1.shape;obtain ⟨q2,y2,rfl,_⟩:=h2.shape;obtain ⟨q3,y3,rfl,_⟩:=h3.shape;obtain ⟨o1,c1,rfl,_⟩:=hk.shape;obtain ⟨o2,c2,rfl,_⟩:=hv.shape;obtain ⟨o3,c3,rfl,_⟩:=hr.shape;obtain ⟨cs,C,q⟩:=G;obtain rfl:cs=#[Bb p.index,Bb p.size,.slice q1 p.key.length y1,.slice q2 p.val.length y2,.slice q3 p.path.length y3]:=by simpa using C.symm
 obtain ⟨i0,i1,i2,i3,i4⟩:=Row.five q;have k0:=D.cell 0;have k1:=I.cell 0;simp only [En] at k0 k1
 by_cases e1:p.key=key
 ·rw [BB e1] at d
  by_cases e2:p.val=val
  ·rw [BB e2] at j
   generalize p.key.length=n1 at *;generalize p.val.length=n2 at *;generalize p.path.length=n3 at *;generalize key.length=n4 at *;generalize val.length=n5 at *;generalize hn6:root.length=n6 at *
   go_in
   go_wp2_with fail
   refine d.mono ?_;rintro e w2 ⟨rfl,b⟩;obtain rfl:=b.symm
   go_wp2_with fail
   refine j.mono ?_;rintro e w2 ⟨rfl,b⟩;obtain rfl:=b.symm
   go_wp2_with fail
   refine HS.mono ?_;rintro e w3 ⟨A,bb,rfl,m⟩;go_wp2;go_ret;exact ⟨A,bb,rfl,fun h=>⟨e1,e2,m.1 h⟩,fun h=>m.2 h.2.2⟩
  ·rw [BC e2] at j
   generalize p.key.length=n1 at *;generalize p.val.length=n2 at *;generalize key.length=n4 at *;generalize val.length=n5 at *
   go_in
   go_wp2_with fail
   refine d.mono ?_;rintro e w2 ⟨rfl,b⟩;obtain rfl:=b.symm
   go_wp2_with fail
   refine j.mono ?_;rintro e w2 ⟨rfl,b⟩;obtain rfl:=b.symm;go_wp2;go_ret;exact ⟨Bi _ _,Yj.no (fun h=>e2 h.2.1)⟩
 ·rw [BC e1] at d
  generalize p.key.length=n1 at *;generalize key.length=n4 at *
  go_in
  go_wp2_with fail
  refine d.mono ?_;rintro e w2 ⟨rfl,b⟩;obtain rfl:=b.symm;go_wp2;go_ret;exact ⟨Bi _ _,Yj.no (fun h=>e1 h.1)⟩
theorem QkB (g:Gp) (key root:Bg) (gk gg:Nat) (gv kv rv:Value) (N:Nat) (w:World) (d:Qi w) (hN:N≤w.heap.size) (hg:GpV w N gv g) (hk:Bytes w N kv key) (hr:Bytes w w.heap.size rv root) (hf:g.fits) (z:key.length≤140737488351232) (D:root.length≤140737488351232)
  (A:∃ cs,gv=.agg cs∧Row w gg 44 cs.toList) (C:Row w gk 29 [kv]) :
  Calls prog 206 #[rv,.pointer (some ⟨gk,0,none⟩),.pointer (some ⟨gg,0,none⟩)] w fun e w'=>Bd w w'∧Yj (QaA root key g) e:=by
 have HS:=Qty root key g rv kv gv w.heap.size w d (Bj _) hr (hk.mono hN) (hg.mono hN) hf D z;obtain ⟨k1,v1,t1,k2,v2,t2,rfl,h1,h2,h3,h4,h5,h6⟩:=hg;obtain ⟨q1,y1,rfl,_⟩:=h1.shape;obtain ⟨q2,y2,rfl,_⟩:=h2.shape;obtain ⟨q3,y3,rfl,_⟩:=h3.shape;obtain ⟨q4,y4,rfl,_⟩:=h4.shape;obtain ⟨q5,y5,rfl,_⟩:=h5.shape;obtain ⟨q6,y6,rfl,_⟩:=h6.shape;obtain ⟨o1,c1,rfl,_⟩:=hk.shape;obtain ⟨o3,c3,rfl,_⟩:=hr.shape;obtain ⟨cs,q,b⟩:=A;obtain rfl:=(Dz q).symm;have i0:=b.cell 0;have i1:=b.cell 1;have i2:=b.cell 2;have i3:=b.cell 3;have i4:=b.cell 4;have i5:=b.cell 5;have i6:=b.cell 6;have i7:=b.cell 7;have i8:=b.cell 8;have i9:=b.cell 9;have E:=b.cell 10;have G:=b.cell 11;have j0:=C.cell 0;simp only [En,List.getElem?_cons_succ] at i0 i1 i2 i3 i4 i5 i6 i7 i8 i9 E G j0
 go_in
 go_wp2_with fail
 refine HS.mono ?_;rintro e w3 ⟨j,bb,rfl,m⟩;go_wp2;go_ret;exact ⟨j,bb,rfl,m⟩
def Qbc (f:FuncId):Prop:=∀ (c:Cl) (now height:Int) (key val:Bg) (p:Prf) (cv kv vv pv:Value) (N:Nat) (w:World),Qi w→N≤w.heap.size→ClV w N cv c→Bytes w N kv key→Bytes w N vv val→Qd3 w N pv p→c.fits→key.length≤140737488351232→val.length≤140737488351232→p.fits →
 Calls prog f #[cv,Bb now,Bb height,kv,vv,pv] w fun e w'=>Bd w w'∧∃ z,e=.returned (Bb z)∧QT c now height (fun r=>p.key=key∧p.val=val∧JX r p) z
def Qew (f:FuncId):Prop:=∀ (c:Cl) (now height:Int) (key:Bg) (g:Gp) (cv kv gv:Value) (N:Nat) (w:World),Qi w→N≤w.heap.size→ClV w N cv c→Bytes w N kv key→GpV w N gv g→c.fits→key.length≤140737488351232→g.fits →
 Calls prog f #[cv,Bb now,Bb height,kv,gv] w fun e w'=>Bd w w'∧∃ z,e=.returned (Bb z)∧QT c now height (fun r=>QaA r key g) z
theorem QjN (P:Bg→Prop) (f:FuncId) (q:Array Value) (hrun:∀ (m:Array Value) (W:World),(callFunc f m).run prog W=.ok (.enter f m) W) (c:Cl) (now height:Int) (cv:Value) (N:Nat) (w:World) (hN:N≤w.heap.size) (j:ClV w N cv c) (D:c.fits)
  (hh:∀ (wx:World) (root:Bg) (rv:Value),Bd w wx→Bytes wx wx.heap.size rv root→root.length≤140737488351232→Calls prog f (#[rv] ++ q) wx fun e w'=>Bd wx w'∧Yj (P root) e) :
  Calls prog 142 #[cv,Bb now,Bb height,.func (.func f) #[] q] w fun e w'=>Bd w w'∧∃ z,e=.returned (Bb z)∧QT c now height P z:=by
 have G:=fun W (hb:Bd w W)=>QmU c now cv N W (j.below (hb.mono hN)) (Bh hN hb.size) D
 have I:=fun W (hb:Bd w W)=>QuL c height cv N W (j.below (hb.mono hN)) (Bh hN hb.size) D
 have A:=fun (h0:QW c now=0) W (hb:Bd w W)=>Qot c now cv N W (j.below (hb.mono hN)) (Bh hN hb.size) (QaL h0).1 (QaL h0).2.1
 obtain ⟨kv,rfl,hk⟩:=j;obtain ⟨oa,ca,rfl,-⟩:=hk.shape
 go_in
 go_upto_region 1 with fail
 refine JO ?_;intro w0 F hs
 go_wp2_with (refine F.load 0 rfl Qm ?_)
 refine (G _ F.b).mono ?_;rintro e w1 ⟨rfl,hb⟩;replace F:=F.go hb
 by_cases ha:QW c now=0
 ·replace A:=hid (A ha)
  rw [ha]
  go_wp2_with (refine F.load 0 rfl Qm ?_)
  refine (I _ F.b).mono ?_;rintro e w2 ⟨hb,p1,d1,p2,d2,rfl,hx,-⟩;replace F:=F.go hb
  cases d:atK c.known height with
  | none =>
   have HB:=hid F.b;simp only [Option.isSome];generalize QeS c.known height=k at *;go_wp2;go_ret;exact ⟨HB.out.alloc HB.out.size _,_,rfl,.inr (.inl ⟨ha,d,rfl⟩)⟩
  | some k =>
   have HT:=And.intro d (D.2.2 k (QgZ d).1).1;rw [QfD d] at hx ⊢;simp only [Option.isSome]
   go_upto_region 5 with fail
   refine F.box ?_;intro w3 F3 hs hb;replace hx:=hid ((hx.below hb).mono hb.size)
   go_wp2_with (refine F3.load 0 rfl Qm ?_)
   refine (A _ F3.b).mono ?_;rintro e w4 ⟨rfl,hb⟩;have F:=F3.go hb;replace hx:=hid ((hx.below hb).mono hb.size);have k1:=F.r1.cell
   cases C:YJ c now with
   | false =>
    go_wp2;go_ret;exact ⟨F.b,_,rfl,.inr (.inr ⟨ha,k,HT.1,.inl ⟨C,rfl⟩⟩)⟩
   | true =>
    have HP:=hid (hh w4 k.root _ F.b hx HT.2)
    go_wp2_with fail
    refine HP.out.mono ?_;rintro e w5 ⟨hb,bb,rfl,E⟩;have HB:=hid (F.go hb).b
    cases bb with
    | true =>
     go_wp2;go_ret;exact ⟨HB.out,_,rfl,.inr (.inr ⟨ha,k,HT.1,.inr ⟨C,.inl ⟨E.1 (by simp),rfl⟩⟩⟩)⟩
    | false =>
     go_wp2;go_ret;exact ⟨HB.out,_,rfl,.inr (.inr ⟨ha,k,HT.1,.inr ⟨C,.inr ⟨fun h=>absurd (E.2 h) (by simp),rfl⟩⟩⟩)⟩
 ·have HA:=hid ha
  have e1:(QW c now != 0)=true:=by simpa using ha
  have HB:=hid F.b;generalize hz:QW c now=z at *;go_wp2;go_ret;exact ⟨HB.out,_,rfl,.inl ⟨by rw [hz];exact HA.out,hz.symm⟩⟩
theorem QeX: Qbc 107:=by
 intro c now height key val p cv kv vv pv N w d hN j hk hv hp q hkl hvl C;have HX:=fun W (hb:Bd w W)=>And.intro (d.below hb d.lt) (And.intro (j.below (hb.mono hN)) (And.intro (hk.below (hb.mono hN)) (And.intro (hv.below (hb.mono hN)) (hp.below (hb.mono hN)))))
 obtain ⟨xv,rfl,A⟩:=j;obtain ⟨oa,ca,rfl,-⟩:=A.shape;obtain ⟨o1,c1,rfl,-⟩:=hk.shape;obtain ⟨o2,c2,rfl,-⟩:=hv.shape;obtain ⟨x1,x2,x3,rfl,h1,h2,h3⟩:=hp;obtain ⟨q1,y1,rfl,-⟩:=h1.shape;obtain ⟨q2,y2,rfl,-⟩:=h2.shape;obtain ⟨q3,y3,rfl,-⟩:=h3.shape
 go_in
 go_upto_region 1 with fail
 refine Qah ?_;intro w0 F hs
 go_wp2_with (refine F.load 0 rfl Qm ?_)
 refine (QjN (fun r=>p.key=key∧p.val=val∧JX r p) 143 #[.pointer (some ⟨w.heap.size+1+1+1,0,none⟩),.pointer (some ⟨w.heap.size+1,0,none⟩),.pointer (some ⟨w.heap.size+1+1,0,none⟩)] (fun _ _=>rfl) c now height _ N w0 (Bh hN F.b.size) (HX _ F.b).2.1 q (fun wx root rv hx hr D=>by
  have F:=F.go hx;obtain ⟨g1,-,g3,g4,g5⟩:=HX _ F.b
  exact QlY p key val root _ _ _ _ _ _ rv N wx g1 (Bh hN F.b.size) g5 g3 g4 hr C D ⟨_,rfl,F.r3⟩ F.r1 F.r2)).mono ?_
 rintro e w1 ⟨m,z,rfl,hz⟩;have HZ:=And.intro (F.go m).b hz;go_wp2;go_ret;exact ⟨HZ.1,z,rfl,HZ.2⟩
theorem Qr9: Qew 170:=by
 intro c now height key g cv kv gv N w d hN j hk hg q C A;have HX:=fun W (hb:Bd w W)=>And.intro (d.below hb d.lt) (And.intro (j.below (hb.mono hN)) (And.intro (hk.below (hb.mono hN)) (hg.below (hb.mono hN))))
 obtain ⟨xv,rfl,D⟩:=j;obtain ⟨oa,ca,rfl,-⟩:=D.shape;obtain ⟨o1,c1,rfl,-⟩:=hk.shape;obtain ⟨k1,v1,t1,k2,v2,t2,rfl,h1,h2,h3,h4,h5,h6⟩:=hg;obtain ⟨q1,y1,rfl,-⟩:=h1.shape;obtain ⟨q2,y2,rfl,-⟩:=h2.shape;obtain ⟨q3,y3,rfl,-⟩:=h3.shape;obtain ⟨q4,y4,rfl,-⟩:=h4.shape;obtain ⟨q5,y5,rfl,-⟩:=h5.shape;obtain ⟨q6,y6,rfl,-⟩:=h6.shape
 go_in
 go_upto_region 1 with fail
 refine JP ?_;intro w0 F hs
 go_wp2_with (refine F.load 0 rfl Qm ?_)
 refine (QjN (fun r=>QaA r key g) 206 #[.pointer (some ⟨w.heap.size+1,0,none⟩),.pointer (some ⟨w.heap.size+1+1,0,none⟩)] (fun _ _=>rfl) c now height _ N w0 (Bh hN F.b.size) (HX _ F.b).2.1 q (fun wx root rv hx hr E=>by
  have F:=F.go hx;obtain ⟨g1,-,g3,g4⟩:=HX _ F.b
  exact QkB g key root _ _ _ _ rv N wx g1 (Bh hN F.b.size) g4 g3 hr A C E ⟨_,rfl,F.r2⟩ F.r1)).mono ?_
 rintro e w1 ⟨m,z,rfl,hz⟩;have HZ:=And.intro (F.go m).b hz;go_wp2;go_ret;exact ⟨HZ.1,z,rfl,HZ.2⟩
theorem QT.some (c:Cl) (now height:Int) (P:Bg→Prop):∃ z,QT c now height P z:=by
 by_cases h1:QW c now=0
 ·cases h2:atK c.known height with
  | none=>exact ⟨6,.inr (.inl ⟨h1,h2,rfl⟩)⟩
  | some k =>
   cases h3:YJ c now with
   | false=>exact ⟨11,.inr (.inr ⟨h1,k,h2,.inl ⟨h3,rfl⟩⟩)⟩
   | true =>
    by_cases h4:P k.root
    ·exact ⟨0,.inr (.inr ⟨h1,k,h2,.inr ⟨h3,.inl ⟨h4,rfl⟩⟩⟩)⟩
    ·exact ⟨9,.inr (.inr ⟨h1,k,h2,.inr ⟨h3,.inr ⟨h4,rfl⟩⟩⟩)⟩
 ·exact ⟨QW c now,.inl ⟨h1,rfl⟩⟩
theorem Qbc.z (h:Qbc f) (c:Cl) (now height:Int) (key val:Bg) (p:Prf) (cv kv vv pv:Value) (N:Nat) (w:World) (h1:Qi w) (h2:N≤w.heap.size) (h3:ClV w N cv c) (h4:Bytes w N kv key) (h5:Bytes w N vv val) (h6:Qd3 w N pv p) (h7:c.fits) (h8:key.length≤140737488351232) (h9:val.length≤140737488351232) (b:p.fits) (hz:QT c now height (fun r=>p.key=key∧p.val=val∧JX r p) ch) :
  Calls prog f #[cv,Bb now,Bb height,kv,vv,pv] w fun e w'=>e=.returned (Bb ch)∧Bd w w':=by
 refine (h c now height key val p cv kv vv pv N w h1 h2 h3 h4 h5 h6 h7 h8 h9 b).mono ?_;rintro e w' ⟨hb,z,rfl,d⟩;exact ⟨by rw [d.eq hz],hb⟩
theorem Qew.z (h:Qew f) (c:Cl) (now height:Int) (key:Bg) (g:Gp) (cv kv gv:Value) (N:Nat) (w:World) (h1:Qi w) (h2:N≤w.heap.size) (h3:ClV w N cv c) (h4:Bytes w N kv key) (h6:GpV w N gv g) (h7:c.fits) (h8:key.length≤140737488351232) (b:g.fits) (hz:QT c now height (fun r=>QaA r key g) ch) :
  Calls prog f #[cv,Bb now,Bb height,kv,gv] w fun e w'=>e=.returned (Bb ch)∧Bd w w':=by
 refine (h c now height key g cv kv gv N w h1 h2 h3 h4 h6 h7 h8 b).mono ?_;rintro e w' ⟨hb,z,rfl,d⟩;exact ⟨by rw [d.eq hz],hb⟩
end Go.Proofs.YtnedafiokmjkkaaGreatDoor
