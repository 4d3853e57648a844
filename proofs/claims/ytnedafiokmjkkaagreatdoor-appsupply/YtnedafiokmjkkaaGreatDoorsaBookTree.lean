/- What slices.Grow and slices.Concat of bytes, and package boo. -/
import Derived.Test.YtnedafiokmjkkaaGreatDoorsaShaAll
import Derived.Test.YtnedafiokmjkkaaGreatDoorsaPairsAll
import Derived.Deep.Slices
namespace Go.Proofs.YtnedafiokmjkkaaGreatDoor
open Tryz
set_option maxRecDepth 1000000
set_option maxHeartbeats 8000000
open Go.RowKit
attribute [local go_sem] Qor
variable {w w':World}
theorem Qtu (x:BitVec 32):IntKind.u32.wrap (u x*(256:Int))=u (x*256):=by
 unfold u;have e:(x.toNat:Int)*(256:Int)=((x.toNat*256:Nat):Int):=by simp
 rw [e,Qbd];simp
attribute [local go_sem] Qgs QmY Qor Qio QfU Qdi Qtu Qpi Qtw Qpb
attribute [local go_sem] Qgs QmY Qor Qio QfU Qdi
attribute [local go_sem] Qio QfU
theorem Qk6 (l:Bg) (sv:Value) (N:Nat) (w:World) (hN:N≤w.heap.size) (hb:Bytes w N sv l) (hK:Qi w) (M:l.length<2305843009213693952) :
  Calls prog 130 #[sv] w fun e w' =>
   ∃ v,e=.returned v∧w'.ownsRow w.heap.size 5 1 v 32 ((sha l).map V)∧Bd w w':=by
 have hzv:=Qiy;have T:=hid hb;have HK:=hid hK;have L:=hid M;clear hb hK M
 go_in
 go_wp2_with fail
 refine (Qjd _).mono ?_;rintro e w1 ⟨rfl,aB⟩;have S:=hid aB;clear aB
 go_wp2_with (refine Da rfl 230 _ _ rfl w1.heap.size Qgy.toArray rfl rfl 230 QkC.toArray (BT _ _) QjC Qjr QlK ?_)
 obtain ⟨w2,G⟩:∃ w2,World.setRow (w1.alloc (.cells QkC.toArray 230)) w1.heap.size Qgy.toArray=w2:=⟨_,rfl⟩;rw [G]
 have j:Row w2 w1.heap.size 230 (QcZ [] (List.replicate 64 0)):=by
  rw [← G,Qjq];exact Ck _ _ QkC.toArray _ _ _ (BT _ _)
 have q:Bd w1 w2:=by
  rw [← G];exact ((Bi _ _).alloc (Bj _) _).trans ⟨rfl,rfl,rfl,by simp,fun k hk=>BV _ _ _ _ (by omega)⟩
 have C:=S.out.size;have b:Bd w w2:=S.out.trans (q.mono C);have m:Qi w2:=HK.out.below b HK.out.lt;have O:w1.heap.size≠1:=by have:=HK.out.lt;omega
 have D:=QmV [] l (List.replicate 64 0) sv N w1.heap.size w2 QoF j (by omega) O (T.out.below (b.mono hN)) m (by have:=L.out;simpa using this)
 have aA:=hid D;have I:=hid b;have aF:=hid m;have aE:=hid j.lt;clear D b m j q G T;refine aA.out.mono ?_;rintro e w3 ⟨rfl,E,R',hA,A⟩;have z:=Qho ([] ++ l) R' w1.heap.size w3 hA A O (aF.out.grown E O) (by have:=L.out;simpa using this)
 rw [Bv] at z;have Y:=hid z;have hsz3:=E.size;have aD:=hid E;clear z E A hA aA
 go_wp2_with fail
 refine Y.out.mono ?_;rintro e w4 ⟨v,rfl,aC,aG⟩;go_wp2;go_ret;have h2:=aE.out;have h02:=I.out.size;exact ⟨_,rfl,Qcn aC (by omega),I.out.trans ((Qbk aD.out C (by omega)).trans (Qbk aG C (by omega)))⟩
theorem QrZ (n:Nat) (w:World) (hn:n≤1000000) :
  Calls prog 269 #[Bc,Bb (n:Int)] w fun e w'=>∃ oa m c,e=.returned (.slice oa m c)∧Qq w' w.heap.size (.slice oa m c) []∧Bd w w':=by
 obtain ⟨i0,A,D,L,E⟩:=Cg Qdx
 by_cases h0:n=0
 ·subst h0
  go_in
  go_wp2;go_ret;exact ⟨_,_,_,rfl,Qq.nil _ _,Bi _ _⟩
 ·obtain ⟨G,hG⟩:∃ G,G=grownCap w n 0 5:=⟨_,rfl⟩
  obtain ⟨W1,b⟩:∃ W1,W1=w.drew.alloc (.cells (Builtin.zeroCells (Value.int .u8 0).cells n ++ Builtin.zeroCells (Value.int .u8 0).cells (G-n)) 5):=⟨_,rfl⟩;have hGn:n≤G:=by rw [hG];exact Du w _ _ _
  have q:G≤maxLen:=by rw [hG];exact DJ w n 0 5 (by unfold maxLen;omega)
  have C:∀ ty,(Builtin.append_ #[29,3] ty #[Bc,Bb (n:Int)]).run prog w=.ok (.slice (some ⟨w.heap.size,0,none⟩) n G) W1:=fun ty=>by
   have h:=Lib.run_append_nil_zeros w 29 3 ty 5 i0 _ .i64 .i64 underlying29 underlying3 A D n (by omega) (by omega) (by omega) (by rw [E];omega)
   rw [h,b,← hG]
  have z:Bd w W1:=by
   rw [b];exact (show Bd w w.drew from ⟨rfl,rfl,rfl,Bj _,fun _ _=>rfl⟩).alloc (by simp) _
  have j:Qq W1 w.heap.size (.slice (some ⟨w.heap.size,0,none⟩) 0 G) []:=by
   refine ⟨rfl,.inr ⟨w.heap.size,G,Builtin.zeroCells (Value.int .u8 0).cells n ++ Builtin.zeroCells (Value.int .u8 0).cells (G-n),rfl,Bj _,?_,BF _,q,?_,rfl⟩⟩
   ·rw [b]
    exact BT w.drew _
   ·rw [Ei,Dv,Dv,show (Value.int .u8 0).cells.size=1 from rfl]
    omega
  have HO:=hid j;have HB:=hid z;obtain ⟨B,hB⟩:∃ B,w.heap.size=B:=⟨_,rfl⟩;rw [hB] at C;have I:=hid hB;clear b hG j z q A D L E hB
  go_in
  go_wp2_with (at_builtin;refine En _ rfl (.tmp 20) (.tmp 21) _ _ rfl _ _ rfl rfl _ _ (C _) ?_)
  go_ret;refine ⟨some ⟨B,0,none⟩,0,G,rfl,?_,HB.out⟩;rw [← I.out];exact HO.out
theorem QiO (n:Nat) (w:World) (hn:n<1000000):Calls prog 250 #[Bb (n:Int)] w fun e w' =>
  e=.returned (.slice (some ⟨w.heap.size,0,none⟩) 4 4)∧w'=w.alloc (.cells ((JX n).map V).toArray 5):=by
 go_in
 go_wp2;go_ret;refine ⟨rfl,?_⟩;rw [QnF,show (n:Int) / 16777216 % 256=(n:Int) / 16777216 by omega,show (n:Int) / 65536 % 256=(n:Int) / 65536 by omega]
theorem Qef (ls:List Bg) (sv:Value) (N:Nat) (w:World) (hN:N≤w.heap.size) (hb:Jz w N sv ls) (A:ls.flatten.length≤1000000) (hn:ls.length≤1000000) :
  Calls prog 249 #[sv] w fun e w'=>∃ v,e=.returned v∧Qq w' w.heap.size v ls.flatten∧Bd w w':=by
 obtain ⟨oa,ca,rfl,hca⟩:=hb.shape;have HB:=hid hb;have z:=hid A;clear hb A;generalize M:ls.length=n at *;have HN:=hid M;clear M
 go_in
 go_wp2_with fail
 go_loopw [3,11] (fun y i wr=>∃ k m:Nat,k≤n∧m≤1000000∧i=Bb (k:Int)∧y=Bb (m:Int)∧wr=w∧Hid (m=(ls.take k).flatten.length)) (fun _ i _=>n-(intOf i).toNat)
 case atStart=>exact ⟨0,0,by omega,by omega,rfl,rfl,rfl,rfl⟩
 case round =>
  obtain ⟨k,m,hk,hm,rfl,rfl,aB,HR⟩:=hrel;obtain rfl:=aB.symm
  by_cases q:k<n
  ·have h1:Jz w N (.slice oa ls.length ca) ls:=by rw [HN.out];exact HB.out
   obtain ⟨b,o,rfl,hc⟩:=h1.some (by rw [HN.out];omega)
   obtain ⟨Y,x,hx,j⟩:=hc k (by rw [HN.out];exact q)
   obtain ⟨o1,c1,rfl,L⟩:=j.shape;have HT:=hid (ZH ls k (by rw [HN.out];exact q))
   obtain ⟨m1,D⟩:∃ m1,(ls.getD k []).length=m1:=⟨_,rfl⟩;rw [D] at hx L;have HL:=hid (show m+m1=(ls.take (k+1)).flatten.length by rw [HT.out,Br,← HR.out,D])
   have hml:m+m1≤1000000:=by rw [HL.out];exact Bh (Qax ls (k+1)) z.out
   have hlt':(k:Int)<(n:Int):=by omega
   have b1:decide ((m:Int)+(m1:Int)<0)=false:=by simp;omega
   have b2:IntKind.i64.wrap ((m:Int)+(m1:Int))=(m:Int)+(m1:Int):=by rw [Cd];omega
   clear h1 hc j D
   go_wp2_with fail
   exact ⟨⟨k+1,m+m1,by omega,by omega,by go_num,by go_num,trivial,HL.out⟩,by simp [intOf];omega⟩
  ·have aA:decide ((k:Int)<(n:Int))=false:=by simp;omega
   have HG:=hid (QrZ m w hm)
   go_wp2_with fail
   refine HG.out.mono ?_;rintro e w2 ⟨og,mg,cg,rfl,C,I⟩;have HO:=hid C;have O:=hid I;clear C I
   go_wp2_with fail
   go_loopw [6,27] (fun y i wx=>∃ k:Nat,k≤n∧i=Bb (k:Int)∧Hid (Qq wx w.heap.size y (ls.take k).flatten∧Bd w wx)) (fun _ i _=>n-(intOf i).toNat)
   case atStart=>exact ⟨0,by omega,rfl,HO.out,O.out⟩
   case round =>
    obtain ⟨k,hk,rfl,HR⟩:=hrel
    by_cases q:k<n
    ·have h1:Jz w N (.slice oa ls.length ca) ls:=by rw [HN.out];exact HB.out
     obtain ⟨b,o,rfl,hc⟩:=h1.some (by rw [HN.out];omega)
     obtain ⟨Y,x,hx,j⟩:=hc k (by rw [HN.out];exact q)
     obtain ⟨o1,c1,rfl,L⟩:=j.shape;have f0:=(HR.out.2.cell (p:=⟨b,o+k,none⟩) (show b<w.heap.size by omega)).trans hx
     have HT:=hid (ZH ls k (by rw [HN.out];exact q))
     have HL:=hid (show (ls.take k).flatten.length+(ls.getD k []).length≤140737488355328 by
      have h2:=Qax ls (k+1);have h3:=z.out;rw [HT.out,Br] at h2
      omega)
     have S:=hid (j.below (HR.out.2.mono hN));have T:=hid (show w.heap.size≤wr.heap.size from HR.out.2.size);have hlt':(k:Int)<(n:Int):=by omega
     clear h1 hc hx j
     go_wp2_with (at_builtin;refine JU rfl (.tmp 31) (.tmp 32) rfl w.heap.size _ (ls.take k).flatten rfl HR.out.1 _ (ls.getD k []) rfl S.out HL.out T.out ?_;intro v' w1 E G hke1)
     go_roundw
     case rel=>exact ⟨k+1,by omega,by go_num,by rw [HT.out];exact E,HR.out.2.trans G⟩
     case measure=>simp [intOf];omega
    ·have aA:decide ((k:Int)<(n:Int))=false:=by simp;omega
     have HT:=hid (show (ls.take k).flatten=ls.flatten by rw [BA (by rw [HN.out];omega)])
     go_wp2;go_ret;exact ⟨_,rfl,by rw [← HT.out];exact HR.out.1,HR.out.2⟩
theorem Qcj (w:World) (b:BitVec 8) (y:Int) (hy:y=b8 b):Bytes (w.alloc (.cells #[.int .u8 y] 5)) (w.heap.size+1) (.slice (some ⟨w.heap.size,0,none⟩) 1 1) [b]:=by
 subst hy;exact ZY w [b] 5 (0,0) 1 (by simp)
theorem QbC (n:Nat) (w:World) (hn:n<1000000):Calls prog 250 #[Bb (n:Int)] w fun e w' =>
  e=.returned (.slice (some ⟨w.heap.size,0,none⟩) 4 4)∧Bytes w' w'.heap.size (.slice (some ⟨w.heap.size,0,none⟩) 4 4) (JX n)∧Below w.heap.size w w':=by
 refine (QiO n w hn).mono ?_;rintro e w' ⟨rfl,rfl⟩;have h:=ZY w (JX n) 5 (0,0) 4 (by simp [JX])
 refine ⟨rfl,?_,(Bi _ _).alloc (Bj _) _⟩;rw [show (w.alloc (.cells ((JX n).map V).toArray 5)).heap.size=w.heap.size+1 by simp]
 exact h
theorem QdT (k v:Bg) (kv vv:Value) (N:Nat) (w:World) (hN:N≤w.heap.size) (hk:Bytes w N kv k) (hv:Bytes w N vv v) (hkl:k.length≤100000) (hvl:v.length≤100000) :
  Calls prog 225 #[kv,vv] w fun e w'=>∃ oa n D,e=.returned (.slice oa n D)∧Qq w' w.heap.size (.slice oa n D) (1 :: (k ++ v))∧Bd w w':=by
 obtain ⟨o1,c1,rfl,_⟩:=hk.shape;obtain ⟨o2,c2,rfl,_⟩:=hv.shape;obtain ⟨w1,m⟩:∃ w1,w.alloc (.cells #[.int .u8 1] 5)=w1:=⟨_,rfl⟩;have z:w1.heap.size=w.heap.size+1:=by rw [← m];simp
 have j:=bof m;have I:Bytes w1 w1.heap.size (.slice (some ⟨w.heap.size,0,none⟩) 1 1) [1]:=by rw [z,← m];exact Qcj w 1 1 rfl
 obtain ⟨w3,q⟩:∃ w3,w1.alloc (.cells #[.slice (some ⟨w.heap.size,0,none⟩) 1 1,.slice o1 k.length c1,.slice o2 v.length c2] 29)=w3:=⟨_,rfl⟩;have M:w3.heap.size=w1.heap.size+1:=by rw [← q];simp
 have E:=bof q
 have L:Jz w3 w3.heap.size (.slice (some ⟨w1.heap.size,0,none⟩) 3 3) [[1],k,v]:=by
  rw [M,← q];exact QnQ I ((hk.below (j.mono hN)).mono (by omega)) ((hv.below (j.mono hN)).mono (by omega))
 have A:[[1],k,v].flatten=1 :: (k ++ v):=by rw [QoT];rfl
 have HJ:=hid (Qef [[1],k,v] _ w3.heap.size w3 (Bj _) L (by rw [A];simp;omega) (by simp))
 rw [A,z] at HJ;have S:=hid (j.trans (E.mono (by omega)))
 have C:=hid (show w.heap.size≤w3.heap.size by omega)
 clear j E I L A hk hv
 go_in
 go_wp2_with fail
 refine HJ.out.mono ?_;rintro e w4 ⟨v4,rfl,b,G⟩;obtain ⟨o4,c4,O,_⟩:=b.shape;generalize (1 :: (k ++ v)).length=n4 at O;subst O;have HO:=hid (b.mono C.out);have T:=hid (S.out.trans (G.mono C.out));clear b G HJ q m;go_wp2;go_ret;exact ⟨_,_,_,rfl,HO.out,T.out⟩
theorem QdL (n:Nat) (t:Bg) (tv:Value) (N:Nat) (w:World) (hN:N≤w.heap.size) (ht:Bytes w N tv t) (hn:n<1000000) (htl:t.length≤100000) :
  Calls prog 226 #[Bb (n:Int),tv] w fun e w'=>∃ oa m G,e=.returned (.slice oa m G)∧Qq w' w.heap.size (.slice oa m G) (2 :: (JX n ++ t))∧Bd w w':=by
 obtain ⟨o1,c1,rfl,_⟩:=ht.shape;obtain ⟨w1,z⟩:∃ w1,w.alloc (.cells #[.int .u8 2] 5)=w1:=⟨_,rfl⟩;have A:w1.heap.size=w.heap.size+1:=by rw [← z];simp
 have C:=bof z;have O:Bytes w1 w1.heap.size (.slice (some ⟨w.heap.size,0,none⟩) 1 1) [2]:=by rw [A,← z];exact Qcj w 2 2 rfl
 have HF:=hid (QbC n w1 hn);have HT:=hid (ht.below (C.mono hN));have aB:=hid C;have aE:=hid O;clear ht C O
 go_in
 go_wp2_with fail
 refine HF.out.mono ?_;rintro e w2 ⟨rfl,M,j⟩;have T:=j.size;obtain ⟨w3,q⟩:∃ w3,w2.alloc (.cells #[.slice (some ⟨w.heap.size,0,none⟩) 1 1,.slice (some ⟨w1.heap.size,0,none⟩) 4 4,.slice o1 t.length c1] 29)=w3:=⟨_,rfl⟩;have Y:w3.heap.size=w2.heap.size+1:=by rw [← q];simp
 have I:=bof q
 have S:Jz w3 w3.heap.size (.slice (some ⟨w2.heap.size,0,none⟩) 3 3) [[2],JX n,t]:=by
  rw [Y,← q];exact QnQ ((aE.out.below j).mono T) M ((HT.out.below (j.mono (by omega))).mono (by omega))
 have D:[[2],JX n,t].flatten=2 :: (JX n ++ t):=by rw [QoT];rfl
 have HJ:=hid (Qef [[2],JX n,t] _ w3.heap.size w3 (Bj _) S (by rw [D];simp [JX];omega) (by simp))
 rw [D] at HJ;have aC:=hid (aB.out.trans ((j.trans (I.mono (by omega))).mono (by omega)))
 have E:=hid (show w.heap.size≤w3.heap.size by omega)
 rw [A] at q;clear j I M S D HF z
 go_wp2_with fail
 refine HJ.out.mono ?_;rintro e w4 ⟨v4,rfl,b,L⟩;obtain ⟨o4,c4,aA,_⟩:=b.shape;generalize (2 :: (JX n ++ t)).length=n4 at aA;subst aA;have HO:=hid (b.mono E.out);have aD:=hid (aC.out.trans (L.mono E.out));clear b L HJ q;go_wp2;go_ret;exact ⟨_,_,_,rfl,HO.out,aD.out⟩
theorem QiU (k v:Bg) (kv vv:Value) (N:Nat) (w:World) (hN:N≤w.heap.size) (hk:Bytes w N kv k) (hv:Bytes w N vv v) (hkl:k.length≤100000) (hvl:v.length≤100000) :
  Calls prog 224 #[.agg #[kv,vv]] w fun e w'=>∃ oa m q,e=.returned (.slice oa m q)∧Qq w' w.heap.size (.slice oa m q) (0 :: (JX k.length ++ (k ++ v)))∧Bd w w':=by
 obtain ⟨o1,c1,rfl,_⟩:=hk.shape;obtain ⟨o2,c2,rfl,_⟩:=hv.shape;obtain ⟨w1,L⟩:∃ w1,w.alloc (.cells #[.slice o1 k.length c1,.slice o2 v.length c2] 287)=w1:=⟨_,rfl⟩;have aB:w1.heap.size=w.heap.size+1:=by rw [← L];simp
 have T:=bof L;have G:Row w1 w.heap.size 287 [.slice o1 k.length c1,.slice o2 v.length c2]:=by rw [← L];exact Row.new _ _ _
 have j:=hid (show ∀ wx,Bd w1 wx→wx.cell? ⟨w.heap.size,0,none⟩=some (.slice o1 k.length c1)∧wx.cell? ⟨w.heap.size,1,none⟩=some (.slice o2 v.length c2) from fun wx hx=>by
  have hr:=G.below hx (by omega)
  exact ⟨hr.cell 0,hr.cell 1⟩)
 have Y:=hid (show ∀ (wx:World) (B:Nat) (x y:Value),wx.heap.size=B→Bd w1 wx→Bytes wx wx.heap.size x [0]→Bytes wx wx.heap.size y (JX k.length) →
   Calls prog 249 #[.slice (some ⟨B,0,none⟩) 4 4] (wx.alloc (.cells #[x,y,.slice o1 k.length c1,.slice o2 v.length c2] 29))
    (fun e w'=>∃ oa m q,e=.returned (.slice oa m q)∧Qq w' w.heap.size (.slice oa m q) (0 :: (JX k.length ++ (k ++ v)))∧Bd w w'∧(w'.cell? ⟨w.heap.size,0,none⟩=some (.slice o1 k.length c1)∧w'.cell? ⟨w.heap.size,1,none⟩=some (.slice o2 v.length c2))) from by
  rintro wx B x y rfl hx h1 h2;have aN:=hx.size
  have aU:Jz (wx.alloc (.cells #[x,y,.slice o1 k.length c1,.slice o2 v.length c2] 29)) (wx.heap.size+1) (.slice (some ⟨wx.heap.size,0,none⟩) 4 4) [[0],JX k.length,k,v] :=
   Qvk h1 h2 (((hk.below (T.mono hN)).below (hx.mono (by omega))).mono (by omega)) (((hv.below (T.mono hN)).below (hx.mono (by omega))).mono (by omega))
  have aJ:[[0],JX k.length,k,v].flatten=0 :: (JX k.length ++ (k ++ v)):=by rw [QvW];rfl
  have A:Bd wx (wx.alloc (.cells #[x,y,.slice o1 k.length c1,.slice o2 v.length c2] 29)):=(Bi _ _).alloc (Bj _) _;have I:(wx.alloc (.cells #[x,y,.slice o1 k.length c1,.slice o2 v.length c2] 29)).heap.size=wx.heap.size+1:=by simp
  refine (Qef [[0],JX k.length,k,v] _ (wx.heap.size+1) _ (by rw [I];exact Bj _) aU (by rw [aJ];simp [JX];omega) (by simp)).mono ?_
  rintro e w' ⟨v',rfl,E,aT⟩;rw [aJ] at E;obtain ⟨oa,q,rfl,_⟩:=E.shape;have aI:Bd w1 w':=hx.trans ((A.mono aN).trans (aT.mono (by rw [I];omega)))
  exact ⟨oa,_,q,rfl,E.mono (by rw [I];omega),T.trans (aI.mono (by omega)),j.out w' aI⟩)
 obtain ⟨wa,aV⟩:∃ wa,wa=(w1.alloc (.cells #[.int .u8 0] 5)).drew:=⟨_,rfl⟩;have aD:Bd w1 (w1.alloc (.cells #[.int .u8 0] 5)).drew:=((Bi _ _).alloc (Bj _) _).drew;have aK:Bytes (w1.alloc (.cells #[.int .u8 0] 5)).drew (w1.heap.size+1) (.slice (some ⟨w1.heap.size,0,none⟩) 1 1) [0]:=(Qcj w1 0 0 rfl).below (Bi _ _).drew;have aC:(w1.alloc (.cells #[.int .u8 0] 5)).drew.heap.size=w1.heap.size+1:=by simp
 have aO:=hid (show Calls prog 250 #[Bb (k.length:Int)] (w1.alloc (.cells #[.int .u8 0] 5)).drew (fun e w'=>e=.returned (.slice (some ⟨w1.heap.size+1,0,none⟩) 4 4)∧Bd w1 w'∧Bytes w' w'.heap.size (.slice (some ⟨w1.heap.size,0,none⟩) 1 1) [0]∧Bytes w' w'.heap.size (.slice (some ⟨w1.heap.size+1,0,none⟩) 4 4) (JX k.length)) from by
  refine (QbC k.length _ (by omega)).mono ?_
  rintro e w' ⟨rfl,h1,h2⟩;have aL:=h2.size;rw [aC] at h1 h2 aL ⊢
  exact ⟨rfl,aD.trans (h2.mono (by omega)),(aK.below h2).mono aL,h1⟩)
 have aP:=hid (show Calls prog 250 #[Bb (k.length:Int)] w1.drew (fun e w'=>e=.returned (.slice (some ⟨w1.heap.size,0,none⟩) 4 4)∧Bd w1 w'∧Bd w1 (w'.alloc (.cells #[.int .u8 0] 5)) ∧
   Bytes (w'.alloc (.cells #[.int .u8 0] 5)) (w'.alloc (.cells #[.int .u8 0] 5)).heap.size (.slice (some ⟨w'.heap.size,0,none⟩) 1 1) [0]∧Bytes (w'.alloc (.cells #[.int .u8 0] 5)) (w'.alloc (.cells #[.int .u8 0] 5)).heap.size (.slice (some ⟨w1.heap.size,0,none⟩) 4 4) (JX k.length)) from by
  refine (QbC k.length w1.drew (by omega)).mono ?_
  rintro e w' ⟨rfl,h1,h2⟩;have A:Bd w1 w':=(show Bd w1 w1.drew from (Bi _ _).drew).trans h2;have aM:(w'.alloc (.cells #[.int .u8 0] 5)).heap.size=w'.heap.size+1:=by simp
  refine ⟨rfl,A,A.alloc A.size _,by rw [aM];exact Qcj w' 0 0 rfl,?_⟩
  rw [aM]
  exact (h1.below ((Bi _ _).alloc (Bj _) _)).mono (by omega))
 have aQ:=hid L;have s0:=j.out w1.drew (Bi _ _).drew;have s1:=j.out _ aD;clear hk hv T G L aV aD aK aC;have HZ1:=hid aB;clear aB
 go_in
 go_wp2_with fail
 rw [aQ.out]
 go_region_held3 (fun W=>W.cell? ⟨w.heap.size,0,none⟩=some (.slice o1 k.length c1)∧W.cell? ⟨w.heap.size,1,none⟩=some (.slice o2 v.length c2)) (first | assumption) (first
  | (go_at_call 250;refine aO.out.mono ?_;rintro e w3 ⟨rfl,C,M,O⟩;have S:=hid C;have aR:=hid M;have aS:=hid O;have s3:=j.out _ S.out;have s4:=j.out _ (S.out.alloc S.out.size (.cells #[.slice (some ⟨w1.heap.size,0,none⟩) 1 1,.slice (some ⟨w1.heap.size+1,0,none⟩) 4 4,.slice o1 k.length c1,.slice o2 v.length c2] 29));clear C M O)
  | (go_at_call 250;refine aP.out.mono ?_;rintro e w3 ⟨rfl,C,aA,M,O⟩;have z:=hid aA;have aG:=hid M;have aH:=hid O;have s3:=j.out _ C;have s3b:=j.out _ z.out;have s4:=j.out _ (z.out.alloc z.out.size (.cells #[.slice (some ⟨w3.heap.size,0,none⟩) 1 1,.slice (some ⟨w1.heap.size,0,none⟩) 4 4,.slice o1 k.length c1,.slice o2 v.length c2] 29));clear C M O aA)
  | (go_at_call 249;refine (Y.out w3 w3.heap.size (.slice (some ⟨w1.heap.size,0,none⟩) 1 1) (.slice (some ⟨w1.heap.size+1,0,none⟩) 4 4) rfl S.out aR.out aS.out).mono ?_;rintro e w5 ⟨o5,n5,c5,rfl,b,D,s5⟩;have aF:=hid b;have aE:=hid D;clear b D)
  | (go_at_call 249;refine (Y.out (w3.alloc (.cells #[.int .u8 0] 5)) (w3.heap.size+1) (.slice (some ⟨w3.heap.size,0,none⟩) 1 1) (.slice (some ⟨w1.heap.size,0,none⟩) 4 4) (Array.size_push ..) z.out aG.out aH.out).mono ?_;rintro e w5 ⟨o5,n5,c5,rfl,b,D,s5⟩;have aF:=hid b;have aE:=hid D;clear b D))
 all_goals
  go_wp2;go_ret;exact ⟨_,_,_,rfl,aF.out,aE.out⟩
theorem Qi.past (h:Qi w) (hg:Bd w w'):Qi w':=h.below hg h.lt
theorem Qtk (l:Bg) (sv:Value) (N:Nat) (w:World) (hN:N≤w.heap.size) (hb:Bytes w N sv l) (hK:Qi w) (hlen:l.length≤1000000) :
  Calls prog 130 #[sv] w fun e w'=>∃ oa b,e=.returned (.slice oa 32 b)∧Qq w' w.heap.size (.slice oa 32 b) (sha l)∧Bd w w':=by
 refine (Qk6 l sv N w hN hb hK (by omega)).mono ?_
 rintro e w' ⟨v,rfl,h1,h2⟩;have h3:Qq w' w.heap.size v (sha l):=by unfold Qq;rw [QR];exact h1
 obtain ⟨oa,b,rfl,_⟩:=h3.shape;rw [QR] at h3 ⊢;exact ⟨oa,b,rfl,h3,h2⟩
end Go.Proofs.YtnedafiokmjkkaaGreatDoor
