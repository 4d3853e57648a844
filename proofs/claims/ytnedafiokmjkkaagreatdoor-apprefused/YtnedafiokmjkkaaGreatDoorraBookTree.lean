/- What slices.Grow and slices.Concat of bytes, and package boo. -/
import Derived.Test.YtnedafiokmjkkaaGreatDoorraShaAll
import Derived.Test.YtnedafiokmjkkaaGreatDoorraPairsAll
import Derived.Deep.Slices
namespace Go.Proofs.YtnedafiokmjkkaaGreatDoor
open Tryz
set_option maxRecDepth 1000000
set_option maxHeartbeats 8000000
open Go.RowKit
attribute [local go_sem] Qoe
variable {w w':World}
theorem Qtf (x:BitVec 32):IntKind.u32.wrap (u x*(256:Int))=u (x*256):=by
 unfold u;have e:(x.toNat:Int)*(256:Int)=((x.toNat*256:Nat):Int):=by simp
 rw [e,Qa7];simp
attribute [local go_sem] Qgm QmF Qoe Qii QfO Qdf Qtf Qo5 Qth QoY
attribute [local go_sem] Qgm QmF Qoe Qii QfO Qdf
attribute [local go_sem] Qii QfO
theorem QkS (l:Bg) (sv:Value) (N:Nat) (w:World) (hN:N≤w.heap.size) (hb:Bytes w N sv l) (hK:Qi w) (L:l.length<2305843009213693952) :
  Calls prog 130 #[sv] w fun e w' =>
   ∃ v,e=.returned v∧w'.ownsRow w.heap.size 5 1 v 32 ((sha l).map V)∧Bd w w':=by
 have hzv:=Qis;have S:=hid hb;have HK:=hid hK;have I:=hid L;clear hb hK L
 go_in
 go_wp2_with fail
 refine (Qi3 _).mono ?_;rintro e w1 ⟨rfl,aA⟩;have O:=hid aA;clear aA
 go_wp2_with (refine Dc rfl 230 _ _ rfl w1.heap.size Qgs.toArray rfl rfl 230 Qkq.toArray (BT _ _) Qjt Qji Qlv ?_)
 obtain ⟨w2,E⟩:∃ w2,World.setRow (w1.alloc (.cells Qkq.toArray 230)) w1.heap.size Qgs.toArray=w2:=⟨_,rfl⟩;rw [E]
 have d:Row w2 w1.heap.size 230 (QcV [] (List.replicate 64 0)):=by
  rw [← E,Qjg];exact Cm _ _ Qkq.toArray _ _ _ (BT _ _)
 have m:Bd w1 w2:=by
  rw [← E];exact ((Bi _ _).alloc (Bj _) _).trans ⟨rfl,rfl,rfl,by simp,fun k hk=>BV _ _ _ _ (by omega)⟩
 have A:=O.out.size;have b:Bd w w2:=O.out.trans (m.mono A);have j:Qi w2:=HK.out.below b HK.out.lt;have M:w1.heap.size≠1:=by have:=HK.out.lt;omega
 have C:=QmC [] l (List.replicate 64 0) sv N w1.heap.size w2 Qos d (by omega) M (S.out.below (b.mono hN)) j (by have:=I.out;simpa using this)
 have Y:=hid C;have G:=hid b;have aE:=hid j;have aD:=hid d.lt;clear C b j d m E S;refine Y.out.mono ?_;rintro e w3 ⟨rfl,D,R',hA,z⟩;have q:=Qhn ([] ++ l) R' w1.heap.size w3 hA z M (aE.out.grown D M) (by have:=I.out;simpa using this)
 rw [Bv] at q;have T:=hid q;have hsz3:=D.size;have aC:=hid D;clear q D z hA Y
 go_wp2_with fail
 refine T.out.mono ?_;rintro e w4 ⟨v,rfl,aB,aF⟩;go_wp2;go_ret;have h2:=aD.out;have h02:=G.out.size;exact ⟨_,rfl,Qch aB (by omega),G.out.trans ((Qbe aC.out A (by omega)).trans (Qbe aF A (by omega)))⟩
theorem QrM (n:Nat) (w:World) (hn:n≤1000000) :
  Calls prog 269 #[Bc,Bb (n:Int)] w fun e w'=>∃ oa m c,e=.returned (.slice oa m c)∧Qq w' w.heap.size (.slice oa m c) []∧Bd w w':=by
 obtain ⟨i0,z,C,I,D⟩:=Ci Qdt
 by_cases h0:n=0
 ·subst h0
  go_in
  go_wp2;go_ret;exact ⟨_,_,_,rfl,Qq.nil _ _,Bi _ _⟩
 ·obtain ⟨G,hG⟩:∃ G,G=grownCap w n 0 5:=⟨_,rfl⟩
  obtain ⟨W1,b⟩:∃ W1,W1=w.drew.alloc (.cells (Builtin.zeroCells (Value.int .u8 0).cells n ++ Builtin.zeroCells (Value.int .u8 0).cells (G-n)) 5):=⟨_,rfl⟩;have hGn:n≤G:=by rw [hG];exact Du w _ _ _
  have j:G≤maxLen:=by rw [hG];exact DJ w n 0 5 (by unfold maxLen;omega)
  have A:∀ ty,(Builtin.append_ #[29,3] ty #[Bc,Bb (n:Int)]).run prog w=.ok (.slice (some ⟨w.heap.size,0,none⟩) n G) W1:=fun ty=>by
   have h:=Lib.run_append_nil_zeros w 29 3 ty 5 i0 _ .i64 .i64 underlying29 underlying3 z C n (by omega) (by omega) (by omega) (by rw [D];omega)
   rw [h,b,← hG]
  have q:Bd w W1:=by
   rw [b];exact (show Bd w w.drew from ⟨rfl,rfl,rfl,Bj _,fun _ _=>rfl⟩).alloc (by simp) _
  have d:Qq W1 w.heap.size (.slice (some ⟨w.heap.size,0,none⟩) 0 G) []:=by
   refine ⟨rfl,.inr ⟨w.heap.size,G,Builtin.zeroCells (Value.int .u8 0).cells n ++ Builtin.zeroCells (Value.int .u8 0).cells (G-n),rfl,Bj _,?_,BH _,j,?_,rfl⟩⟩
   ·rw [b]
    exact BT w.drew _
   ·rw [Ei,Dv,Dv,show (Value.int .u8 0).cells.size=1 from rfl]
    omega
  have HO:=hid d;have HB:=hid q;obtain ⟨B,hB⟩:∃ B,w.heap.size=B:=⟨_,rfl⟩;rw [hB] at A;have E:=hid hB;clear b hG d q j z C I D hB
  go_in
  go_wp2_with (at_builtin;refine Eo _ rfl (.tmp 20) (.tmp 21) _ _ rfl _ _ rfl rfl _ _ (A _) ?_)
  go_ret;refine ⟨some ⟨B,0,none⟩,0,G,rfl,?_,HB.out⟩;rw [← E.out];exact HO.out
theorem QiF (n:Nat) (w:World) (hn:n<1000000):Calls prog 250 #[Bb (n:Int)] w fun e w' =>
  e=.returned (.slice (some ⟨w.heap.size,0,none⟩) 4 4)∧w'=w.alloc (.cells ((JU n).map V).toArray 5):=by
 go_in
 go_wp2;go_ret;refine ⟨rfl,?_⟩;rw [Qnl,show (n:Int) / 16777216 % 256=(n:Int) / 16777216 by omega,show (n:Int) / 65536 % 256=(n:Int) / 65536 by omega]
theorem Qeb (ls:List Bg) (sv:Value) (N:Nat) (w:World) (hN:N≤w.heap.size) (hb:Jx w N sv ls) (z:ls.flatten.length≤1000000) (hn:ls.length≤1000000) :
  Calls prog 249 #[sv] w fun e w'=>∃ v,e=.returned v∧Qq w' w.heap.size v ls.flatten∧Bd w w':=by
 obtain ⟨oa,ca,rfl,hca⟩:=hb.shape;have HB:=hid hb;have q:=hid z;clear hb z;generalize L:ls.length=n at *;have HN:=hid L;clear L
 go_in
 go_wp2_with fail
 go_loopw [3,11] (fun y i wr=>∃ k m:Nat,k≤n∧m≤1000000∧i=Bb (k:Int)∧y=Bb (m:Int)∧wr=w∧Hid (m=(ls.take k).flatten.length)) (fun _ i _=>n-(intOf i).toNat)
 case atStart=>exact ⟨0,0,by omega,by omega,rfl,rfl,rfl,rfl⟩
 case round =>
  obtain ⟨k,m,hk,hm,rfl,rfl,aA,HR⟩:=hrel;obtain rfl:=aA.symm
  by_cases j:k<n
  ·have h1:Jx w N (.slice oa ls.length ca) ls:=by rw [HN.out];exact HB.out
   obtain ⟨b,o,rfl,hc⟩:=h1.some (by rw [HN.out];omega)
   obtain ⟨T,x,hx,d⟩:=hc k (by rw [HN.out];exact j)
   obtain ⟨o1,c1,rfl,I⟩:=d.shape;have HT:=hid (ZB ls k (by rw [HN.out];exact j))
   obtain ⟨m1,C⟩:∃ m1,(ls.getD k []).length=m1:=⟨_,rfl⟩;rw [C] at hx I;have HL:=hid (show m+m1=(ls.take (k+1)).flatten.length by rw [HT.out,Bs,← HR.out,C])
   have hml:m+m1≤1000000:=by rw [HL.out];exact Bh (Qar ls (k+1)) q.out
   have hlt':(k:Int)<(n:Int):=by omega
   have b1:decide ((m:Int)+(m1:Int)<0)=false:=by simp;omega
   have b2:IntKind.i64.wrap ((m:Int)+(m1:Int))=(m:Int)+(m1:Int):=by rw [Ce];omega
   clear h1 hc d C
   go_wp2_with fail
   exact ⟨⟨k+1,m+m1,by omega,by omega,by go_num,by go_num,trivial,HL.out⟩,by simp [intOf];omega⟩
  ·have Y:decide ((k:Int)<(n:Int))=false:=by simp;omega
   have HG:=hid (QrM m w hm)
   go_wp2_with fail
   refine HG.out.mono ?_;rintro e w2 ⟨og,mg,cg,rfl,A,G⟩;have HO:=hid A;have M:=hid G;clear A G
   go_wp2_with fail
   go_loopw [6,27] (fun y i wx=>∃ k:Nat,k≤n∧i=Bb (k:Int)∧Hid (Qq wx w.heap.size y (ls.take k).flatten∧Bd w wx)) (fun _ i _=>n-(intOf i).toNat)
   case atStart=>exact ⟨0,by omega,rfl,HO.out,M.out⟩
   case round =>
    obtain ⟨k,hk,rfl,HR⟩:=hrel
    by_cases j:k<n
    ·have h1:Jx w N (.slice oa ls.length ca) ls:=by rw [HN.out];exact HB.out
     obtain ⟨b,o,rfl,hc⟩:=h1.some (by rw [HN.out];omega)
     obtain ⟨T,x,hx,d⟩:=hc k (by rw [HN.out];exact j)
     obtain ⟨o1,c1,rfl,I⟩:=d.shape;have f0:=(HR.out.2.cell (p:=⟨b,o+k,none⟩) (show b<w.heap.size by omega)).trans hx
     have HT:=hid (ZB ls k (by rw [HN.out];exact j))
     have HL:=hid (show (ls.take k).flatten.length+(ls.getD k []).length≤140737488355328 by
      have h2:=Qar ls (k+1);have h3:=q.out;rw [HT.out,Bs] at h2
      omega)
     have O:=hid (d.below (HR.out.2.mono hN));have S:=hid (show w.heap.size≤wr.heap.size from HR.out.2.size);have hlt':(k:Int)<(n:Int):=by omega
     clear h1 hc hx d
     go_wp2_with (at_builtin;refine JS rfl (.tmp 31) (.tmp 32) rfl w.heap.size _ (ls.take k).flatten rfl HR.out.1 _ (ls.getD k []) rfl O.out HL.out S.out ?_;intro v' w1 D E hke1)
     go_roundw
     case rel=>exact ⟨k+1,by omega,by go_num,by rw [HT.out];exact D,HR.out.2.trans E⟩
     case measure=>simp [intOf];omega
    ·have Y:decide ((k:Int)<(n:Int))=false:=by simp;omega
     have HT:=hid (show (ls.take k).flatten=ls.flatten by rw [Bw (by rw [HN.out];omega)])
     go_wp2;go_ret;exact ⟨_,rfl,by rw [← HT.out];exact HR.out.1,HR.out.2⟩
theorem Qce (w:World) (b:BitVec 8) (y:Int) (hy:y=b8 b):Bytes (w.alloc (.cells #[.int .u8 y] 5)) (w.heap.size+1) (.slice (some ⟨w.heap.size,0,none⟩) 1 1) [b]:=by
 subst hy;exact ZT w [b] 5 (0,0) 1 (by simp)
theorem QbA (n:Nat) (w:World) (hn:n<1000000):Calls prog 250 #[Bb (n:Int)] w fun e w' =>
  e=.returned (.slice (some ⟨w.heap.size,0,none⟩) 4 4)∧Bytes w' w'.heap.size (.slice (some ⟨w.heap.size,0,none⟩) 4 4) (JU n)∧Below w.heap.size w w':=by
 refine (QiF n w hn).mono ?_;rintro e w' ⟨rfl,rfl⟩;have h:=ZT w (JU n) 5 (0,0) 4 (by simp [JU])
 refine ⟨rfl,?_,(Bi _ _).alloc (Bj _) _⟩;rw [show (w.alloc (.cells ((JU n).map V).toArray 5)).heap.size=w.heap.size+1 by simp]
 exact h
theorem QdP (k v:Bg) (kv vv:Value) (N:Nat) (w:World) (hN:N≤w.heap.size) (hk:Bytes w N kv k) (hv:Bytes w N vv v) (hkl:k.length≤100000) (hvl:v.length≤100000) :
  Calls prog 225 #[kv,vv] w fun e w'=>∃ oa n C,e=.returned (.slice oa n C)∧Qq w' w.heap.size (.slice oa n C) (1 :: (k ++ v))∧Bd w w':=by
 obtain ⟨o1,c1,rfl,_⟩:=hk.shape;obtain ⟨o2,c2,rfl,_⟩:=hv.shape;obtain ⟨w1,j⟩:∃ w1,w.alloc (.cells #[.int .u8 1] 5)=w1:=⟨_,rfl⟩;have q:w1.heap.size=w.heap.size+1:=by rw [← j];simp
 have d:=bof j;have G:Bytes w1 w1.heap.size (.slice (some ⟨w.heap.size,0,none⟩) 1 1) [1]:=by rw [q,← j];exact Qce w 1 1 rfl
 obtain ⟨w3,m⟩:∃ w3,w1.alloc (.cells #[.slice (some ⟨w.heap.size,0,none⟩) 1 1,.slice o1 k.length c1,.slice o2 v.length c2] 29)=w3:=⟨_,rfl⟩;have L:w3.heap.size=w1.heap.size+1:=by rw [← m];simp
 have D:=bof m
 have I:Jx w3 w3.heap.size (.slice (some ⟨w1.heap.size,0,none⟩) 3 3) [[1],k,v]:=by
  rw [L,← m];exact Qny G ((hk.below (d.mono hN)).mono (by omega)) ((hv.below (d.mono hN)).mono (by omega))
 have z:[[1],k,v].flatten=1 :: (k ++ v):=by rw [QoG];rfl
 have HJ:=hid (Qeb [[1],k,v] _ w3.heap.size w3 (Bj _) I (by rw [z];simp;omega) (by simp))
 rw [z,q] at HJ;have O:=hid (d.trans (D.mono (by omega)))
 have A:=hid (show w.heap.size≤w3.heap.size by omega)
 clear d D G I z hk hv
 go_in
 go_wp2_with fail
 refine HJ.out.mono ?_;rintro e w4 ⟨v4,rfl,b,E⟩;obtain ⟨o4,c4,M,_⟩:=b.shape;generalize (1 :: (k ++ v)).length=n4 at M;subst M;have HO:=hid (b.mono A.out);have S:=hid (O.out.trans (E.mono A.out));clear b E HJ m j;go_wp2;go_ret;exact ⟨_,_,_,rfl,HO.out,S.out⟩
theorem QdH (n:Nat) (t:Bg) (tv:Value) (N:Nat) (w:World) (hN:N≤w.heap.size) (ht:Bytes w N tv t) (hn:n<1000000) (htl:t.length≤100000) :
  Calls prog 226 #[Bb (n:Int),tv] w fun e w'=>∃ oa m E,e=.returned (.slice oa m E)∧Qq w' w.heap.size (.slice oa m E) (2 :: (JU n ++ t))∧Bd w w':=by
 obtain ⟨o1,c1,rfl,_⟩:=ht.shape;obtain ⟨w1,q⟩:∃ w1,w.alloc (.cells #[.int .u8 2] 5)=w1:=⟨_,rfl⟩;have z:w1.heap.size=w.heap.size+1:=by rw [← q];simp
 have A:=bof q;have M:Bytes w1 w1.heap.size (.slice (some ⟨w.heap.size,0,none⟩) 1 1) [2]:=by rw [z,← q];exact Qce w 2 2 rfl
 have HF:=hid (QbA n w1 hn);have HT:=hid (ht.below (A.mono hN));have aA:=hid A;have aD:=hid M;clear ht A M
 go_in
 go_wp2_with fail
 refine HF.out.mono ?_;rintro e w2 ⟨rfl,L,d⟩;have S:=d.size;obtain ⟨w3,j⟩:∃ w3,w2.alloc (.cells #[.slice (some ⟨w.heap.size,0,none⟩) 1 1,.slice (some ⟨w1.heap.size,0,none⟩) 4 4,.slice o1 t.length c1] 29)=w3:=⟨_,rfl⟩;have T:w3.heap.size=w2.heap.size+1:=by rw [← j];simp
 have G:=bof j
 have O:Jx w3 w3.heap.size (.slice (some ⟨w2.heap.size,0,none⟩) 3 3) [[2],JU n,t]:=by
  rw [T,← j];exact Qny ((aD.out.below d).mono S) L ((HT.out.below (d.mono (by omega))).mono (by omega))
 have C:[[2],JU n,t].flatten=2 :: (JU n ++ t):=by rw [QoG];rfl
 have HJ:=hid (Qeb [[2],JU n,t] _ w3.heap.size w3 (Bj _) O (by rw [C];simp [JU];omega) (by simp))
 rw [C] at HJ;have aB:=hid (aA.out.trans ((d.trans (G.mono (by omega))).mono (by omega)))
 have D:=hid (show w.heap.size≤w3.heap.size by omega)
 rw [z] at j;clear d G L O C HF q
 go_wp2_with fail
 refine HJ.out.mono ?_;rintro e w4 ⟨v4,rfl,b,I⟩;obtain ⟨o4,c4,Y,_⟩:=b.shape;generalize (2 :: (JU n ++ t)).length=n4 at Y;subst Y;have HO:=hid (b.mono D.out);have aC:=hid (aB.out.trans (I.mono D.out));clear b I HJ j;go_wp2;go_ret;exact ⟨_,_,_,rfl,HO.out,aC.out⟩
theorem QiL (k v:Bg) (kv vv:Value) (N:Nat) (w:World) (hN:N≤w.heap.size) (hk:Bytes w N kv k) (hv:Bytes w N vv v) (hkl:k.length≤100000) (hvl:v.length≤100000) :
  Calls prog 224 #[.agg #[kv,vv]] w fun e w'=>∃ oa m j,e=.returned (.slice oa m j)∧Qq w' w.heap.size (.slice oa m j) (0 :: (JU k.length ++ (k ++ v)))∧Bd w w':=by
 obtain ⟨o1,c1,rfl,_⟩:=hk.shape;obtain ⟨o2,c2,rfl,_⟩:=hv.shape;obtain ⟨w1,I⟩:∃ w1,w.alloc (.cells #[.slice o1 k.length c1,.slice o2 v.length c2] 287)=w1:=⟨_,rfl⟩;have aA:w1.heap.size=w.heap.size+1:=by rw [← I];simp
 have S:=bof I;have E:Row w1 w.heap.size 287 [.slice o1 k.length c1,.slice o2 v.length c2]:=by rw [← I];exact Row.new _ _ _
 have d:=hid (show ∀ wx,Bd w1 wx→wx.cell? ⟨w.heap.size,0,none⟩=some (.slice o1 k.length c1)∧wx.cell? ⟨w.heap.size,1,none⟩=some (.slice o2 v.length c2) from fun wx hx=>by
  have hr:=E.below hx (by omega)
  exact ⟨hr.cell 0,hr.cell 1⟩)
 have T:=hid (show ∀ (wx:World) (B:Nat) (x y:Value),wx.heap.size=B→Bd w1 wx→Bytes wx wx.heap.size x [0]→Bytes wx wx.heap.size y (JU k.length) →
   Calls prog 249 #[.slice (some ⟨B,0,none⟩) 4 4] (wx.alloc (.cells #[x,y,.slice o1 k.length c1,.slice o2 v.length c2] 29))
    (fun e w'=>∃ oa m j,e=.returned (.slice oa m j)∧Qq w' w.heap.size (.slice oa m j) (0 :: (JU k.length ++ (k ++ v)))∧Bd w w'∧(w'.cell? ⟨w.heap.size,0,none⟩=some (.slice o1 k.length c1)∧w'.cell? ⟨w.heap.size,1,none⟩=some (.slice o2 v.length c2))) from by
  rintro wx B x y rfl hx h1 h2;have aM:=hx.size
  have aT:Jx (wx.alloc (.cells #[x,y,.slice o1 k.length c1,.slice o2 v.length c2] 29)) (wx.heap.size+1) (.slice (some ⟨wx.heap.size,0,none⟩) 4 4) [[0],JU k.length,k,v] :=
   Qu8 h1 h2 (((hk.below (S.mono hN)).below (hx.mono (by omega))).mono (by omega)) (((hv.below (S.mono hN)).below (hx.mono (by omega))).mono (by omega))
  have aI:[[0],JU k.length,k,v].flatten=0 :: (JU k.length ++ (k ++ v)):=by rw [QvK];rfl
  have z:Bd wx (wx.alloc (.cells #[x,y,.slice o1 k.length c1,.slice o2 v.length c2] 29)):=(Bi _ _).alloc (Bj _) _;have G:(wx.alloc (.cells #[x,y,.slice o1 k.length c1,.slice o2 v.length c2] 29)).heap.size=wx.heap.size+1:=by simp
  refine (Qeb [[0],JU k.length,k,v] _ (wx.heap.size+1) _ (by rw [G];exact Bj _) aT (by rw [aI];simp [JU];omega) (by simp)).mono ?_
  rintro e w' ⟨v',rfl,D,aS⟩;rw [aI] at D;obtain ⟨oa,j,rfl,_⟩:=D.shape;have aH:Bd w1 w':=hx.trans ((z.mono aM).trans (aS.mono (by rw [G];omega)))
  exact ⟨oa,_,j,rfl,D.mono (by rw [G];omega),S.trans (aH.mono (by omega)),d.out w' aH⟩)
 obtain ⟨wa,aU⟩:∃ wa,wa=(w1.alloc (.cells #[.int .u8 0] 5)).drew:=⟨_,rfl⟩;have aC:Bd w1 (w1.alloc (.cells #[.int .u8 0] 5)).drew:=((Bi _ _).alloc (Bj _) _).drew;have aJ:Bytes (w1.alloc (.cells #[.int .u8 0] 5)).drew (w1.heap.size+1) (.slice (some ⟨w1.heap.size,0,none⟩) 1 1) [0]:=(Qce w1 0 0 rfl).below (Bi _ _).drew;have aB:(w1.alloc (.cells #[.int .u8 0] 5)).drew.heap.size=w1.heap.size+1:=by simp
 have aN:=hid (show Calls prog 250 #[Bb (k.length:Int)] (w1.alloc (.cells #[.int .u8 0] 5)).drew (fun e w'=>e=.returned (.slice (some ⟨w1.heap.size+1,0,none⟩) 4 4)∧Bd w1 w'∧Bytes w' w'.heap.size (.slice (some ⟨w1.heap.size,0,none⟩) 1 1) [0]∧Bytes w' w'.heap.size (.slice (some ⟨w1.heap.size+1,0,none⟩) 4 4) (JU k.length)) from by
  refine (QbA k.length _ (by omega)).mono ?_
  rintro e w' ⟨rfl,h1,h2⟩;have aK:=h2.size;rw [aB] at h1 h2 aK ⊢
  exact ⟨rfl,aC.trans (h2.mono (by omega)),(aJ.below h2).mono aK,h1⟩)
 have aO:=hid (show Calls prog 250 #[Bb (k.length:Int)] w1.drew (fun e w'=>e=.returned (.slice (some ⟨w1.heap.size,0,none⟩) 4 4)∧Bd w1 w'∧Bd w1 (w'.alloc (.cells #[.int .u8 0] 5)) ∧
   Bytes (w'.alloc (.cells #[.int .u8 0] 5)) (w'.alloc (.cells #[.int .u8 0] 5)).heap.size (.slice (some ⟨w'.heap.size,0,none⟩) 1 1) [0]∧Bytes (w'.alloc (.cells #[.int .u8 0] 5)) (w'.alloc (.cells #[.int .u8 0] 5)).heap.size (.slice (some ⟨w1.heap.size,0,none⟩) 4 4) (JU k.length)) from by
  refine (QbA k.length w1.drew (by omega)).mono ?_
  rintro e w' ⟨rfl,h1,h2⟩;have z:Bd w1 w':=(show Bd w1 w1.drew from (Bi _ _).drew).trans h2;have aL:(w'.alloc (.cells #[.int .u8 0] 5)).heap.size=w'.heap.size+1:=by simp
  refine ⟨rfl,z,z.alloc z.size _,by rw [aL];exact Qce w' 0 0 rfl,?_⟩
  rw [aL]
  exact (h1.below ((Bi _ _).alloc (Bj _) _)).mono (by omega))
 have aP:=hid I;have s0:=d.out w1.drew (Bi _ _).drew;have s1:=d.out _ aC;clear hk hv S E I aU aC aJ aB;have HZ1:=hid aA;clear aA
 go_in
 go_wp2_with fail
 rw [aP.out]
 go_region_held3 (fun W=>W.cell? ⟨w.heap.size,0,none⟩=some (.slice o1 k.length c1)∧W.cell? ⟨w.heap.size,1,none⟩=some (.slice o2 v.length c2)) (first | assumption) (first
  | (go_at_call 250;refine aN.out.mono ?_;rintro e w3 ⟨rfl,A,L,M⟩;have O:=hid A;have aQ:=hid L;have aR:=hid M;have s3:=d.out _ O.out;have s4:=d.out _ (O.out.alloc O.out.size (.cells #[.slice (some ⟨w1.heap.size,0,none⟩) 1 1,.slice (some ⟨w1.heap.size+1,0,none⟩) 4 4,.slice o1 k.length c1,.slice o2 v.length c2] 29));clear A L M)
  | (go_at_call 250;refine aO.out.mono ?_;rintro e w3 ⟨rfl,A,Y,L,M⟩;have q:=hid Y;have aF:=hid L;have aG:=hid M;have s3:=d.out _ A;have s3b:=d.out _ q.out;have s4:=d.out _ (q.out.alloc q.out.size (.cells #[.slice (some ⟨w3.heap.size,0,none⟩) 1 1,.slice (some ⟨w1.heap.size,0,none⟩) 4 4,.slice o1 k.length c1,.slice o2 v.length c2] 29));clear A L M Y)
  | (go_at_call 249;refine (T.out w3 w3.heap.size (.slice (some ⟨w1.heap.size,0,none⟩) 1 1) (.slice (some ⟨w1.heap.size+1,0,none⟩) 4 4) rfl O.out aQ.out aR.out).mono ?_;rintro e w5 ⟨o5,n5,c5,rfl,b,C,s5⟩;have aE:=hid b;have aD:=hid C;clear b C)
  | (go_at_call 249;refine (T.out (w3.alloc (.cells #[.int .u8 0] 5)) (w3.heap.size+1) (.slice (some ⟨w3.heap.size,0,none⟩) 1 1) (.slice (some ⟨w1.heap.size,0,none⟩) 4 4) (Array.size_push ..) q.out aF.out aG.out).mono ?_;rintro e w5 ⟨o5,n5,c5,rfl,b,C,s5⟩;have aE:=hid b;have aD:=hid C;clear b C))
 all_goals
  go_wp2;go_ret;exact ⟨_,_,_,rfl,aE.out,aD.out⟩
theorem Qi.past (h:Qi w) (hg:Bd w w'):Qi w':=h.below hg h.lt
theorem Qs5 (l:Bg) (sv:Value) (N:Nat) (w:World) (hN:N≤w.heap.size) (hb:Bytes w N sv l) (hK:Qi w) (hlen:l.length≤1000000) :
  Calls prog 130 #[sv] w fun e w'=>∃ oa b,e=.returned (.slice oa 32 b)∧Qq w' w.heap.size (.slice oa 32 b) (sha l)∧Bd w w':=by
 refine (QkS l sv N w hN hb hK (by omega)).mono ?_
 rintro e w' ⟨v,rfl,h1,h2⟩;have h3:Qq w' w.heap.size v (sha l):=by unfold Qq;rw [QQ];exact h1
 obtain ⟨oa,b,rfl,_⟩:=h3.shape;rw [QQ] at h3 ⊢;exact ⟨oa,b,rfl,h3,h2⟩
end Go.Proofs.YtnedafiokmjkkaaGreatDoor
