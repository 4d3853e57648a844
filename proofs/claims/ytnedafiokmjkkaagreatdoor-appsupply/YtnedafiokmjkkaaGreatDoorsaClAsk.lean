/- What package client's isTime, wrongKnown and Wrong answer. -/
import Derived.Test.YtnedafiokmjkkaaGreatDoorsaRegGo
import Derived.Test.YtnedafiokmjkkaaGreatDoorsaStOwn
namespace Go.Proofs.YtnedafiokmjkkaaGreatDoor
open Tryz
set_option maxRecDepth 1000000
set_option maxHeartbeats 8000000
open Go.RowKit
variable {W w w':World} {h:Int} {B N g k n:Nat} {t:TypeId} {v v4 v5:Value} {cs xs:List Value} {f:FuncId} {l:List (BitVec 8)} {c:Cl}
def PcB (b:Bg) (X:Value) (W:World):Prop:=∃ o n c,X=.agg #[Bb 2,.int .u64 0,.slice o n c]∧Bytes W W.heap.size (.slice o n c) b
theorem PcB.stay (b:Bg):Yq (PcB b):=fun _ _ _ hb ⟨o,n,c,e,h⟩=>⟨o,n,c,e,(h.below hb).mono hb.size⟩
def Qkc (l:List Pc) (X:Value) (W:World):Prop:=JF W W.heap.size X l
theorem Qkc.stay (l:List Pc):Yq (Qkc l):=fun _ _ _ hb h=>JF.mono (JF.below h hb) hb.size
def WrB (b:Bg) (X:Value) (W:World):Prop:=∃ o n k c i,X=.tuple #[.slice o n k,.agg #[Bb c,Bb i]]∧Bytes W W.heap.size (.slice o n k) b
theorem WrB.stay (b:Bg):Yq (WrB b):=fun _ _ _ hb ⟨o,n,k,c,i,e,h⟩=>⟨o,n,k,c,i,e,(h.below hb).mono hb.size⟩
def ByB (b:Bg) (X:Value) (W:World):Prop:=∃ o n c,X=.slice o n c∧Bytes W W.heap.size (.slice o n c) b
theorem ByB.stay (b:Bg):Yq (ByB b):=fun _ _ _ hb ⟨o,n,c,e,h⟩=>⟨o,n,c,e,(h.below hb).mono hb.size⟩
theorem ByB.of {b:Bg} {X:Value} (h:Bytes W W.heap.size X b):ByB b X W:=by grind [Bytes,ByB]
theorem ByB.bytes {b:Bg} {X:Value} (h:ByB b X W):Bytes W W.heap.size X b:=by grind [ByB]
def FaB (X:Value) (_:World):Prop:=∃ c i,X=.agg #[Bb c,Bb i]
theorem FaB.stay: Yq FaB:=fun _ _ _ _ h=>h
def Qlj (base:Nat) (X:Value) (W:World):Prop:=∃ k,X=.pointer (some ⟨k,0,none⟩)∧base≤k∧Row W k 180 [Bb 0,Bb 0]
theorem Qlj.stay (base:Nat):Yq (Qlj base):=fun _ _ _ hb ⟨k,e,h1,h⟩=>⟨k,e,h1,h.below hb h.lt⟩
theorem QtB {l:List Pc} {b:Bg} (m:l.length<2305843009213693952) (j:∀ p∈l,p.fits) (hw:YC l=.ok b) (v:Value) (W:World) (hp:Qkc l v W):Calls prog 121 #[v] W fun e W'=>∃ x,e=.returned x∧Bd W W'∧WrB b x W':=by
 refine (QdC l v W.heap.size W hp (Bj _) m j).mono ?_;rintro e W' ⟨hb,⟨x,y,hx,rfl,ho⟩ | ⟨c,i,hx,-⟩⟩
 ·obtain ⟨o,k,rfl,-⟩:=ho.shape
  rw [hw] at hx
  cases hx
  exact ⟨_,rfl,hb,o,_,k,0,0,rfl,ho.bytes⟩
 ·rw [hw] at hx
  cases hx
theorem Qep (w:World) (t:TypeId) (ps:List (Pc×Value)) (h:∀ q∈ps,Bytes w w.heap.size q.2 q.1.b) :
  JF (w.alloc (.cells (ps.flatMap YN).toArray t)) (w.alloc (.cells (ps.flatMap YN).toArray t)).heap.size (.slice (some ⟨w.heap.size,0,none⟩) ps.length ps.length) (ps.map (·.1)):=by
 have hb:Bd w (w.alloc (.cells (ps.flatMap YN).toArray t)):=(Bi _ _).alloc (Bj _) _;have hr:Row (w.alloc (.cells (ps.flatMap YN).toArray t)) w.heap.size t (ps.flatMap YN):=Row.new _ _ _;refine .inr (.inr ⟨w.heap.size,0,ps.length,by simp,by simp,fun i p hp=>?_⟩)
 obtain ⟨q,hq,rfl⟩:∃ q,ps[i]?=some q∧q.1=p:=by simpa using hp
 refine ⟨hr.lt,q.2,?_⟩
 have e:∀ j,j<3→(w.alloc (.cells (ps.flatMap YN).toArray t)).cell? ⟨w.heap.size,0+i*3+j,none⟩=(YN q)[j]?:=fun j hj=>by
  rw [hr.cell,Bq,QlR ps i j q hq hj]
 exact ⟨e 0 (by omega),e 1 (by omega),e 2 (by omega),((h q (Bn hq)).below hb).mono hb.size⟩
def Qgq (n:Int):Bool:=decide (0≤n) && decide (n≤1000000000000)
theorem Qhx (n:Int) (w:World):Calls prog 73 #[Bb n] w fun e w'=>e=.returned (.bool (Qgq n))∧w'=w:=by
 cases e1:decide (0≤n)
 all_goals
  go_in
  go_wp2;go_ret;exact ⟨by simp [Qgq,e1];first | done | rfl,rfl⟩
theorem Qiu (k:Kn) (v:Value) (N:Nat) (w:World) (hv:KnV w N v k) :
  Calls prog 39 #[v] w fun e w'=>e=.returned (Bb (YJ k))∧Bd w w':=by
 obtain ⟨rv,nv,rfl,h1,h2⟩:=hv;obtain ⟨o1,c1,rfl,_⟩:=h1.shape;obtain ⟨o2,c2,rfl,_⟩:=h2.shape;obtain ⟨w0,b⟩:∃ w0,w.alloc (.cells #[Bb k.height,Bb k.time,.slice o1 k.root.length c1,.slice o2 k.next.length c2] 31)=w0:=⟨_,rfl⟩;have j:=hid (show Bd w w0 by rw [← b];exact (Bi _ _).alloc (Bj _) _)
 have kk:=(show Row w0 w.heap.size 31 [Bb k.height,Bb k.time,.slice o1 k.root.length c1,.slice o2 k.next.length c2] by rw [← b];exact Row.new _ _ _).cell
 have HW:=hid (show YJ k=if (decide (k.height<1) || decide (1000000000000<k.height) || !Qgq k.time)=true then 3 else if (((k.root.length:Int) != 32) || ((k.next.length:Int) != 32))=true then 2 else 0 by grind [YJ,Qgq])
 clear h1 h2
 cases q1:decide (k.height<1)
 cases q2:decide (1000000000000<k.height)
 cases q3:Qgq k.time
 rotate_left
 cases q4:((k.root.length:Int) != 32)
 cases q5:((k.next.length:Int) != 32)
 all_goals
  go_in
  go_wp2_with (go_at_call 73;refine (Qhx _ _).mono ?_;rintro e w' ⟨rfl,rfl⟩)
  go_ret;exact ⟨by rw [HW.out];simp [*];first | done | rfl,j.out⟩
def Qq8 (f:FuncId):Prop:=∀ (c:Cl) (v:Value) (N:Nat) (w:World),ClV w N v c→N≤w.heap.size→c.fits →
 Calls prog f #[v] w fun e w'=>e=.returned (Bb (Qy c))∧Bd w w'
theorem Qg8: Qq8 18:=by
 intro c v N w hv hN aI;obtain ⟨kv,rfl,hk⟩:=hv;obtain ⟨f1,f2,f3⟩:=aI;obtain ⟨oa,ca,rfl,hca⟩:=hk.shape;have HK:=hid hk;clear hk f3;obtain ⟨w0,M⟩:∃ w0,w.alloc (.cells #[.string c.chain,Bb c.trust,.bool c.frozen,.slice oa c.known.length ca] 78)=w0:=⟨_,rfl⟩;have Y:=hid (show Bd w w0 by rw [← M];exact (Bi _ _).alloc (Bj _) _)
 have aE:=hid (QiW M);have k0:=aE.out.cell;have T:w0.heap.size=w.heap.size+1:=by rw [← M];simp
 have HSZ0:=hid T
 have HW:=hid (show Qy c=if (!Zc c.chain)=true then 7 else if (decide (c.trust<1) || decide (1000000000000<c.trust))=true then 3 else if (decide ((c.known.length:Int)<1) || decide (30<(c.known.length:Int)))=true then 5 else Qgz (Qcp c.known 0) (c.known.drop 0) by
  rw [Qmt,BS];grind [Qy])
 clear T;generalize aJ:c.known.length=n at *;have HN:=hid aJ;clear aJ
 cases q0:Zc c.chain
 rotate_left
 cases q1:decide (c.trust<1)
 cases q2:decide (1000000000000<c.trust)
 cases q3:decide ((n:Int)<1)
 cases q4:decide (30<(n:Int))
 rotate_left
 iterate 5
  go_in
  go_wp2_with (go_at_call 13;refine (Qa3 _ _ f1).mono ?_;rintro e w' ⟨rfl,rfl⟩)
  go_ret;exact ⟨by rw [HW.out];simp [*];first | done | rfl,Y.out⟩
 have h30:n≤30:=by simp at q4;omega
 replace HW:=hid (HW.out.trans (by simp only [q0,q1,q2,q3,q4];rfl))
 generalize hl:c.known=l at *;clear hl
 go_in
 go_wp2_with (go_at_call 13;refine (Qa3 _ _ f1).mono ?_;rintro e w' ⟨rfl,aN⟩;obtain rfl:=aN.symm)
 go_loopw [3,4,5,34] (fun _ _ _ i wr=>∃ k:Nat,k≤n∧i=Bb (k:Int)∧Hid (Bd w0 wr∧Qy c=Qgz (Qcp l k) (l.drop k))) (fun _ _ _ i _=>n-(intOf i).toNat)
 case atStart=>exact ⟨0,by omega,rfl,hid ⟨Bi _ _,HW.out⟩⟩
 case round =>
  obtain ⟨k,hk,rfl,HT⟩:=hrel;have aK:=HT.out.1.size;have E:=hid (Y.out.trans (HT.out.1.mono Y.out.size))
  by_cases aM:k<n
  ·obtain ⟨x,hx⟩:∃ x,l[k]?=some x:=⟨l[k]'(by rw [HN.out];exact aM),Bk _⟩
   obtain ⟨b,o,rfl,A⟩:=HK.out.spot (by omega)
   obtain ⟨hbN,vr,vn,d0,d1,d2,d3,b2,b3⟩:=A k x hx;obtain ⟨o2,c2,rfl,_⟩:=b2.shape;obtain ⟨o3,c3,rfl,_⟩:=b3.shape;have I:b<w.heap.size:=by omega
   have f0:=(E.out.cell (p:=⟨b,o+k*4,none⟩) I).trans d0;have f1:=(E.out.cell (p:=⟨b,o+k*4+1,none⟩) I).trans d1;have f2:=(E.out.cell (p:=⟨b,o+k*4+2,none⟩) I).trans d2;have f3:=(E.out.cell (p:=⟨b,o+k*4+3,none⟩) I).trans d3;have aG:=hid (HT.out.2.trans (Quf l k x hx));obtain ⟨w2,O⟩:∃ w2,wr.alloc (.cells #[Bb x.height,Bb x.time,.slice o2 x.root.length c2,.slice o3 x.next.length c3] 31)=w2:=⟨_,rfl⟩;have L:=bof O;have aD:=hid (HT.out.1.trans (L.mono aK));have C:=hgo E L;have aF:=hid (QiW O);have aB:=hid O;have aC:=hid (Qiu x (.agg #[Bb x.height,Bb x.time,.slice o2 x.root.length c2,.slice o3 x.next.length c3]) N w2 ⟨_,_,rfl,b2.below (C.out.mono hN),b3.below (C.out.mono hN)⟩);have HX:=hid hx;have HC:=hid A;clear d0 d1 d2 d3 L O b2 b3 hx A M
   by_cases G:YJ x=0
   rotate_left
   ·have aA:=hid (aG.out.trans (if_pos G))
    have g1:(YJ x != 0)=true:=by simpa using G
    clear G;generalize YJ x=z at *
    go_wp2_with fail
    rw [aB.out]
    go_wp2_with fail
    refine aC.out.mono ?_;rintro e w3 ⟨rfl,q⟩;have D:=hgo C q;clear q;go_wp2;go_ret;exact ⟨by rw [aA.out];first | done | rfl,D.out⟩
   ·have m:=hid (aG.out.trans (if_neg (fun h=>h G)))
    have aH:=hid G;clear G
    cases k with
    | zero =>
     have f0':wr.cell? ⟨b,o,none⟩=some (Bb x.height):=by simpa using f0
     go_wp2_with fail
     rw [aB.out]
     go_wp2_with fail
     refine aC.out.mono ?_;rintro e w3 ⟨rfl,q⟩;rw [aH.out];have D:=hgo aD q;clear q
     go_wp2_with fail
     go_quiet (fail)
     go_wp2;go_roundw
     case rel=>exact ⟨1,by omega,by go_num,hid ⟨D.out.trans (Jq _ _ _),m.out⟩⟩
     case measure=>simp [intOf];omega
    | succ j =>
     obtain ⟨y,hy⟩:∃ y,l[j]?=some y:=⟨l[j]'(by rw [HN.out];omega),Bk _⟩
     obtain ⟨_,_,_,t0,_⟩:=HC.out j y hy;replace m:=hid (show Qy c=if decide (x.height≤y.height)=true then 2 else _ by rw [m.out,Qgi l j y hy];rfl)
     have hj1:((j+1:Nat):Int)-1=(j:Int):=by omega
     have aL:=hid t0;clear hy t0
     cases g5:decide (x.height≤y.height)
     all_goals
      replace m:=hid (m.out.trans (by rw [g5]))
      go_wp2_with fail
      rw [aB.out]
      go_wp2_with fail
      refine aC.out.mono ?_;rintro e w3 ⟨rfl,q⟩;rw [aH.out];have D:=hgo aD q;have S:=hgo C q;have s0:=(aF.out.below q aF.out.lt).cell 0;have s3:=(rg aE D).cell 3;have t0':=(S.out.cell (p:=⟨b,o+j*4,none⟩) I).trans aL.out;clear q
      go_wp2_with fail
      go_quiet (fail)
      go_wp2
     ·go_roundw
      case rel=>exact ⟨j+2,by omega,by go_num,hid ⟨D.out.trans (Jq _ _ _),m.out⟩⟩
      case measure=>simp [intOf];omega
     ·go_ret
      exact ⟨by rw [m.out];first | done | rfl,S.out.trans (Jq _ _ _)⟩
  ·have hge:decide ((k:Int)<(n:Int))=false:=by simp;omega
   have aA:=hid (show Qy c=0 by rw [HT.out.2,Qr8 l k (by rw [HN.out];omega)])
   go_wp2;go_ret;exact ⟨by rw [aA.out];first | done | rfl,E.out⟩
theorem Qwc (a b:Int):(a == b)=decide (a=b):=by rw [Df];simp
theorem QpQ (k:Kn) (h:Int) (g:Nat) (v:Value) (N:Nat) (w:World) (hv:KnV w N v k) (hc:w.cell? ⟨g,0,none⟩=some (Bb h)) :
  Calls prog 213 #[v,.pointer (some ⟨g,0,none⟩)] w fun e w'=>e=.returned (.bool (decide (k.height=h)))∧Bd w w':=by
 obtain ⟨rv,nv,rfl,h1,h2⟩:=hv;obtain ⟨o1,c1,rfl,_⟩:=h1.shape;obtain ⟨o2,c2,rfl,_⟩:=h2.shape;obtain ⟨w0,j⟩:∃ w0,w.alloc (.cells #[Bb k.height,Bb k.time,.slice o1 k.root.length c1,.slice o2 k.next.length c2] 31)=w0:=⟨_,rfl⟩;have b:=bof j;have m:=(show Row w0 w.heap.size 31 [Bb k.height,Bb k.time,.slice o1 k.root.length c1,.slice o2 k.next.length c2] by rw [← j];exact Row.new _ _ _)
 have k0:=m.cell 0;have hc0:=(b.cell (p:=⟨g,0,none⟩) (CE hc)).trans hc
 go_in
 go_wp2;go_ret;exact ⟨by rw [← Qwc];first | done | rfl,b⟩
theorem Qpw {l:List Kn} {j:Nat} {k:Kn} (b:∀ x∈l.take j,x.height≠h) (hk:l[j]?=some k) (e:k.height=h):atK l h=some k:=by
 obtain ⟨hj,rfl⟩:=Bm.1 hk;unfold atK;have hl:l=l.take j ++ l[j] :: l.drop (j+1):=by rw [← Cs hj,CS]
 rw [show l.find? (fun k=>decide (k.height=h))=(l.take j ++ l[j] :: l.drop (j+1)).find? (fun k=>decide (k.height=h)) from Bl _ hl]
 rw [List.find?_append,List.find?_eq_none.2 (fun x hx=>by simpa using b x hx),List.find?_cons_of_pos (by simpa using e)]
 rfl
def Qv8 (l:List Kn) (h:Int) (i:Int):Prop:=(i = -1∧atK l h=none)∨∃ (j:Nat) (k:Kn),i=(j:Int)∧l[j]?=some k∧atK l h=some k
theorem QlY (l:List Kn) (h:Int) (g:Nat) (v:Value) (N:Nat) (w:World) (hN:N≤w.heap.size) (hv:Jj w N v l) (hlen:l.length<2305843009213693952) (hc:w.cell? ⟨g,0,none⟩=some (Bb h)) :
  Calls prog 212 #[v,.func (.func 213) #[] #[.pointer (some ⟨g,0,none⟩)]] w fun e w'=>Bd w w'∧∃ i:Int,e=.returned (Bb i)∧Qv8 l h i:=by
 obtain ⟨oa,ca,rfl,hca⟩:=hv.shape;have D:=CE hc;generalize hn:l.length=n at *
 go_in
 go_wp2_with fail
 go_loopw [5,8] (fun _ s8 wr=>∃ k:Nat,k≤n∧s8=Bb (k:Int)∧Hid (Bd w wr∧∀ x∈l.take k,x.height≠h)) (fun _ s8 _=>n-(intOf s8).toNat)
 case atStart=>exact ⟨0,BF _,rfl,hid ⟨Bi _ _,by simp⟩⟩
 case round =>
  obtain ⟨k,hk,rfl,HR⟩:=hrel;have q:=HR.out.1.size
  by_cases E:k<n
  ·have hlt':(k:Int)<(n:Int):=by omega
   obtain ⟨x,hx⟩:∃ x,l[k]?=some x:=⟨l[k]'(by rw [hn];exact E),Bk _⟩
   obtain ⟨b,o,rfl,m⟩:=hv.spot (by omega)
   obtain ⟨hbN,vr,vn,d0,d1,d2,d3,b2,b3⟩:=m k x hx;obtain ⟨o2,c2,rfl,_⟩:=b2.shape;obtain ⟨o3,c3,rfl,_⟩:=b3.shape;have j:b<w.heap.size:=by omega
   have f0:=(HR.out.1.cell (p:=⟨b,o+k*4,none⟩) j).trans d0;have f1:=(HR.out.1.cell (p:=⟨b,o+k*4+1,none⟩) j).trans d1;have f2:=(HR.out.1.cell (p:=⟨b,o+k*4+2,none⟩) j).trans d2;have f3:=(HR.out.1.cell (p:=⟨b,o+k*4+3,none⟩) j).trans d3;have HF:=QpQ x h g (.agg #[Bb x.height,Bb x.time,.slice o2 x.root.length c2,.slice o3 x.next.length c3]) N wr ⟨_,_,rfl,b2.below (HR.out.1.mono hN),b3.below (HR.out.1.mono hN)⟩ ((HR.out.1.cell (p:=⟨g,0,none⟩) D).trans hc)
   by_cases he:x.height=h
   ·have HE:=hid he
    rw [BB he] at HF;clear he
    go_wp2_with fail
    refine HF.mono ?_;rintro e w5 ⟨rfl,A⟩;have z:=HR.out.1.trans (A.mono q);go_wp2;go_ret;exact ⟨z,_,rfl,.inr ⟨k,x,rfl,hx,Qpw HR.out.2 hx HE.out⟩⟩
   ·have HE:=hid he
    rw [BD he] at HF
    have C:=hid (show ∀ y∈l.take (k+1),y.height≠h from fun y hy=>by
     rw [Dh,hx] at hy
     rcases Bw.1 hy with hy | hy
     ·exact HR.out.2 y hy
     ·obtain rfl:y=x:=by simpa using hy
      exact HE.out)
    go_wp2_with fail
    refine HF.mono ?_;rintro e w5 ⟨rfl,A⟩;have z:=HR.out.1.trans (A.mono q);go_wp2;go_roundw
    case rel=>exact ⟨k+1,by omega,by go_num,hid ⟨z,C.out⟩⟩
    case measure=>simp [intOf];omega
  ·have hge:decide ((k:Int)<(n:Int))=false:=by simp;omega
   go_wp2;go_ret;refine ⟨HR.out.1,_,rfl,.inl ⟨rfl,Qrh fun x hx=>HR.out.2 x ?_⟩⟩
   rw [BA (by rw [hn];omega)]
   exact hx
def QeW (l:List Kn) (h:Int):Kn:=(atK l h).getD Kn.none
theorem QfL {l:List Kn} {k:Kn} (e:atK l h=some k):QeW l h=k:=by unfold QeW;rw [e];rfl
theorem Qp7 {l:List Kn} (e:atK l h=none):QeW l h=Kn.none:=by unfold QeW;rw [e];rfl
def AtC (f:FuncId):Prop:=∀ (c:Cl) (h:Int) (v:Value) (N:Nat) (w:World),ClV w N v c→N≤w.heap.size→c.fits →
 Calls prog f #[v,Bb h] w fun e w'=>Bd w w'∧∃ o1 c1 o2 c2,e=.returned (.tuple #[.agg #[Bb (QeW c.known h).height,Bb (QeW c.known h).time,.slice o1 (QeW c.known h).root.length c1,.slice o2 (QeW c.known h).next.length c2],.bool (atK c.known h).isSome])∧Bytes w' w'.heap.size (.slice o1 (QeW c.known h).root.length c1) (QeW c.known h).root∧Bytes w' w'.heap.size (.slice o2 (QeW c.known h).next.length c2) (QeW c.known h).next
theorem QuV: AtC 178:=by
 intro c h v N w hv hN S;obtain ⟨kv,rfl,hk⟩:=hv;obtain ⟨f1,f2,f3⟩:=S;obtain ⟨oa,ca,rfl,hca⟩:=hk.shape;obtain ⟨w0,q⟩:∃ w0,((w.alloc (.cells #[.string c.chain,Bb c.trust,.bool c.frozen,.slice oa c.known.length ca] 78)).alloc (.cells #[Bb h] 3)).alloc (.cells #[Bb 0,Bb 0,Bc,Bc] 31)=w0:=⟨_,rfl⟩;have A:Bd w w0:=by rw [← q];exact (((Bi _ _).alloc (Bj _) _).alloc (by simp) _).alloc (by simp;omega) _
 have aF:Row (w.alloc (.cells #[.string c.chain,Bb c.trust,.bool c.frozen,.slice oa c.known.length ca] 78)) w.heap.size 78 [.string c.chain,Bb c.trust,.bool c.frozen,.slice oa c.known.length ca]:=Row.new _ _ _;have T:Row w0 w.heap.size 78 [.string c.chain,Bb c.trust,.bool c.frozen,.slice oa c.known.length ca]:=by rw [← q];exact (aF.alloc _).alloc _
 have aE:Row w0 (w.heap.size+1) 3 [Bb h]:=by
  rw [← q];have:=Row.new (w.alloc (.cells #[.string c.chain,Bb c.trust,.bool c.frozen,.slice oa c.known.length ca] 78)) 3 [Bb h];simp only [D6] at this;exact this.alloc _
 have Y:Row w0 (w.heap.size+1+1) 31 [Bb 0,Bb 0,Bc,Bc]:=by
  rw [← q];have:=Row.new ((w.alloc (.cells #[.string c.chain,Bb c.trust,.bool c.frozen,.slice oa c.known.length ca] 78)).alloc (.cells #[Bb h] 3)) 31 [Bb 0,Bb 0,Bc,Bc];simp only [D6] at this;exact this
 have HI:=QlY c.known h (w.heap.size+1) _ N w0 (Bh hN A.size) (hk.below (A.mono hN)) f2 (aE.cell 0);have aA:=hid q;generalize aC:c.known.length=n at *;clear q
 go_in
 go_wp2_with fail
 rw [aA.out];refine HI.mono ?_;rintro e w1 ⟨E,i,rfl,aB⟩;have m:=A.trans (E.mono A.size);have r3:=(T.below E T.lt).cell 3;have z:=Y.below E Y.lt;obtain ⟨⟨y0,y1,y2,y3⟩,z0,z1,z2,z3⟩:=z.four
 rcases aB with ⟨rfl,aD⟩ | ⟨j,k,rfl,hj,O⟩
 ·have M:=hid aD
  have e1:decide ((-1:Int)<0)=true:=by decide
  go_wp2;have I:=Qdd z (Bb 0) (Bb 0) (Bc) (Bc);obtain ⟨⟨u0,u1,u2,u3⟩,_⟩:=I.four;have G:=Z5 m (show w.heap.size≤w.heap.size+1+1 by omega) (Bb 0) (Bb 0) (Bc) (Bc)
  unfold set4 at u0 u1 u2 u3;refine BG (v:=.tuple #[.agg #[Bb 0,Bb 0,Bc,Bc],.bool false]) (by simp [results,results178,go_sem,u0,u1,u2,u3]) rfl ⟨G,none,0,none,0,?_⟩
  rw [Qp7 M.out,M.out];exact ⟨rfl,.inl ⟨rfl,rfl⟩,.inl ⟨rfl,rfl⟩⟩
 ·have hjn:j<n:=by rw [← aC];exact (Bm.1 hj).1
  obtain ⟨b,o,rfl,D⟩:=hk.spot (by omega)
  obtain ⟨hbN,vr,vn,d0,d1,d2,d3,b2,b3⟩:=D j k hj;obtain ⟨o2,c2,rfl,_⟩:=b2.shape;obtain ⟨o3,c3,rfl,_⟩:=b3.shape;have C:b<w.heap.size:=by omega
  have f0:=(m.cell (p:=⟨b,o+j*4,none⟩) C).trans d0;have f1:=(m.cell (p:=⟨b,o+j*4+1,none⟩) C).trans d1;have f2:=(m.cell (p:=⟨b,o+j*4+2,none⟩) C).trans d2;have f3:=(m.cell (p:=⟨b,o+j*4+3,none⟩) C).trans d3;have L:=And.intro b2 b3;go_wp2;have I:=Qdd z (Bb k.height) (Bb k.time) (.slice o2 k.root.length c2) (.slice o3 k.next.length c3);obtain ⟨⟨u0,u1,u2,u3⟩,_⟩:=I.four;have G:=Z5 m (show w.heap.size≤w.heap.size+1+1 by omega) (Bb k.height) (Bb k.time) (.slice o2 k.root.length c2) (.slice o3 k.next.length c3)
  have w2:=Qia (g:=w.heap.size+1+1) (a:=Bb k.height) (b:=Bb k.time) (c:=.slice o2 k.root.length c2) (d:=.slice o3 k.next.length c3) (L.1.below (m.mono hN)) (by omega)
  have w3:=Qia (g:=w.heap.size+1+1) (a:=Bb k.height) (b:=Bb k.time) (c:=.slice o2 k.root.length c2) (d:=.slice o3 k.next.length c3) (L.2.below (m.mono hN)) (by omega)
  unfold set4 at u0 u1 u2 u3;refine BG (v:=.tuple #[.agg #[Bb k.height,Bb k.time,.slice o2 k.root.length c2,.slice o3 k.next.length c3],.bool true]) (by simp [results,results178,go_sem,u0,u1,u2,u3]) rfl ⟨G,o2,c2,o3,c3,?_⟩
  rw [QfL O,O];exact ⟨rfl,w2,w3⟩
theorem Z3 {base e:Nat} (h:w.ownsRow base e k v n xs) (hr:Row w g t cs) (ht:t≠e) (ho:∀ j,j≠g→w'.heap[j]?=w.heap[j]?):w'.ownsRow base e k v n xs:=by
 obtain ⟨h1,h2⟩:=h;refine ⟨h1,?_⟩
 rcases h2 with h2 | ⟨b,cap,cur,h3,h4,h5,h6⟩
 ·exact .inl h2
 ·refine .inr ⟨b,cap,cur,h3,h4,(ho b ?_).trans h5,h6⟩
  rintro rfl;unfold Row at hr;rw [hr] at h5;simp at h5;exact ht h5.2
def Qiz (base:Nat) (l:Bg) (X:Value) (W:World):Prop:=∃ o c,X=.slice o l.length c∧Qq W base (.slice o l.length c) l
theorem Qiz.stay (base:Nat) (l:Bg):Yq (Qiz base l):=fun _ _ _ hb ⟨o,c,e,h⟩=>⟨o,c,e,QW h hb⟩
theorem Qiz.call {b:Array Value} {base:Nat} (hB:base≤B) (h:Calls prog f b W fun e w'=>∃ v,e=.returned v∧Qq w' B v l∧Bd W w'):Calls prog f b W fun e w'=>∃ v,e=.returned v∧Bd W w'∧Qiz base l v w' :=
 h.mono (by rintro e w' ⟨v,rfl,ho,hb⟩;obtain ⟨o,c,rfl,-⟩:=ho.shape;exact ⟨_,rfl,hb,o,c,rfl,ho.mono hB⟩)
theorem QcC (k:Kn) (v:Value) (N:Nat) (w:World) (hv:KnV w N v k) (hN:N≤w.heap.size) (hf:k.fits) :
  Calls prog 100 #[v] w fun e w'=>Bd w w'∧∃ o1 c1 o2 c2,e=.returned (.agg #[Bb k.height,Bb k.time,.slice o1 k.root.length c1,.slice o2 k.next.length c2])∧Qq w' w.heap.size (.slice o1 k.root.length c1) k.root∧Qq w' w.heap.size (.slice o2 k.next.length c2) k.next:=by
 obtain ⟨rv,nv,rfl,h1,h2⟩:=hv;obtain ⟨o1,c1,rfl,-⟩:=h1.shape;obtain ⟨o2,c2,rfl,-⟩:=h2.shape;have HC:=fun W (hb:Bd w W)=>And.intro (QfC k.root _ N W (h1.below (hb.mono hN)) (Bh hN hb.size) (by have:=hf.1;omega)) (QfC k.next _ N W (h2.below (hb.mono hN)) (Bh hN hb.size) (by have:=hf.2;omega))
 go_in
 go_upto_region 1 with fail
 refine QdQ ?_;intro w0 F hs;apply JT 7 (by kernel_rfl) (fun W hb=>(F.go hb).r0.cell) (by kernel_rfl)
 ·intro σ;simp [Ql];exact rfl
 iterate 2 (apply RK.val rfl;· intro σ W hb hc ⟨hd,hu⟩;simp at hd hu;go_simp;exact rfl)
 apply RK.callG (Qiz w.heap.size k.root) (Qiz.stay _ _) rfl
 ·intro σ W hb hc ⟨hd,hu⟩;simp at hd hu
  exact ⟨_,_,by go_simp <;> first | exact rfl | exact ⟨rfl,rfl⟩,Qiz.call (F.go hb).b.size (HC W (F.go hb).b).1⟩
 iterate 2 (apply RK.val rfl;· intro σ W hb hc ⟨hd,hu⟩;simp at hd hu;go_simp;exact rfl)
 apply RK.callG (Qiz w.heap.size k.next) (Qiz.stay _ _) rfl
 ·intro σ W hb hc ⟨hd,hu⟩;simp at hd hu
  exact ⟨_,_,by go_simp <;> first | exact rfl | exact ⟨rfl,rfl⟩,Qiz.call (F.go hb).b.size (HC W (F.go hb).b).2⟩
 apply RK.val rfl;· intro σ W hb hc ⟨hd,hu⟩;simp at hd hu;go_simp;exact rfl
 intro σ W hb _;simp only [JE,Bv,By,Nat.reduceAdd];intro hF;obtain ⟨-,-,⟨p1,d1,y1,g1⟩,-,-,⟨p2,d2,y2,g2⟩,e6,-⟩:=hF;have F:=F.go hb;have HG:=And.intro g1 g2;have z:=F.r0.frozen;simp only [BU,BS,e6,y1,y2]
 go_upto_region 2 with fail
 refine ((F.set1 0 2 (.slice p1 k.root.length d1) rfl).set1 0 3 (.slice p2 k.next.length d2) rfl).named (((JJ.refl _ _).cell 2 _).cell 3 _) ?_;intro w3 F3 O3;have j:=hid (And.intro (Z3 HG.1 F.r0 (by decide) O3.same) (Z3 HG.2 F.r0 (by decide) O3.same))
 go_wp2_with (first | refine F3.load 0 rfl Y9 ?_ | (refine F3.store 1 rfl Y9 (by simp) ?_;intro w4 F4 O4))
 exact Qfe results100 rfl F4.r1 Y9 rfl ⟨F4.b,_,_,_,_,rfl,Z3 j.out.1 F3.r1 (by decide) O4.same,Z3 j.out.2 F3.r1 (by decide) O4.same⟩
theorem Qin (c:Cl) (k:Kn) (now:Int) (cv v:Value) (N:Nat) (w:World) (hc:ClV w N cv c) (hv:KnV w N v k) (h1:0≤now∧now≤1000000000000) (h2:0≤k.time∧k.time≤1000000000000) :
  Calls prog 179 #[cv,v,Bb now] w fun e w'=>e=.returned (.bool (decide (now-k.time<c.trust)))∧Bd w w':=by
 obtain ⟨kv,rfl,hk⟩:=hc;obtain ⟨oa,ca,rfl,_⟩:=hk.shape;obtain ⟨rv,nv,rfl,g1,g2⟩:=hv;obtain ⟨o1,c1,rfl,_⟩:=g1.shape;obtain ⟨o2,c2,rfl,_⟩:=g2.shape;obtain ⟨w0,b⟩:∃ w0,(w.alloc (.cells #[.string c.chain,Bb c.trust,.bool c.frozen,.slice oa c.known.length ca] 78)).alloc (.cells #[Bb k.height,Bb k.time,.slice o1 k.root.length c1,.slice o2 k.next.length c2] 31)=w0:=⟨_,rfl⟩;have j:Bd w w0:=by rw [← b];exact ((Bi _ _).alloc (Bj _) _).alloc (by simp) _
 have q:Row w0 w.heap.size 78 [.string c.chain,Bb c.trust,.bool c.frozen,.slice oa c.known.length ca]:=by rw [← b];exact (Row.new _ _ _).alloc _
 have z:Row w0 (w.heap.size+1) 31 [Bb k.height,Bb k.time,.slice o1 k.root.length c1,.slice o2 k.next.length c2]:=by
  rw [← b];have:=Row.new (w.alloc (.cells #[.string c.chain,Bb c.trust,.bool c.frozen,.slice oa c.known.length ca] 78)) 31 [Bb k.height,Bb k.time,.slice o1 k.root.length c1,.slice o2 k.next.length c2];simp only [D6] at this;exact this
 have m:=hid b;clear q z b
 go_in
 go_wp2;go_ret;rw [m.out];exact ⟨by first | done | rfl,j⟩
def QtD (f:FuncId):Prop:=∀ (c:Cl) (now:Int) (v:Value) (N:Nat) (w:World),ClV w N v c→N≤w.heap.size→Qy c=0→0≤now∧now≤1000000000000 →
 Calls prog f #[v,Bb now] w fun e w'=>e=.returned (.bool (YL c now))∧Bd w w'
theorem QgR (now:Int) (h:c.frozen=true):YL c now=false:=by unfold YL;rw [h];rfl
theorem Qkf {now:Int} {k:Kn} (h:c.frozen=false) (hn:c.known.length=n+1) (hk:c.known[n]?=some k):YL c now=decide (now-k.time<c.trust):=by
 unfold YL;rw [h,List.getLast?_eq_getElem?,hn,DC,hk];rfl
theorem QoG: QtD 141:=by
 intro c now v N w hv hN hc S;have aB:=hid hv;obtain ⟨kv,rfl,hk⟩:=hv;obtain ⟨oa,ca,rfl,hca⟩:=hk.shape;obtain ⟨w0,E⟩:∃ w0,w.alloc (.cells #[.string c.chain,Bb c.trust,.bool c.frozen,.slice oa c.known.length ca] 78)=w0:=⟨_,rfl⟩;have j:=bof E;have T:Row w0 w.heap.size 78 [.string c.chain,Bb c.trust,.bool c.frozen,.slice oa c.known.length ca]:=by rw [← E];exact Row.new _ _ _
 obtain ⟨⟨y0,y1,y2,y3⟩,_⟩:=T.four
 cases A:c.frozen with
 | true =>
  have HA:=QgR now A;rw [A] at y2;have D:=hid E;rw [A] at D
  go_in
  go_wp2_with fail
  rw [D.out]
  go_quiet (fail)
  go_wp2;go_ret;exact ⟨by rw [HA];first | done | rfl,j.trans (Jq _ _ _)⟩
 | false =>
  obtain ⟨_,_,⟨aD,aE⟩,G,_⟩:=(Yc c).1 hc;obtain ⟨n,hn⟩:∃ n,c.known.length=n+1:=⟨c.known.length-1,by omega⟩
  obtain ⟨x,hx⟩:∃ x,c.known[n]?=some x:=⟨c.known[n]'(by omega),Bk _⟩
  have aF:=((Qey x).1 (G x (Bn hx))).1;obtain ⟨b,o,rfl,C⟩:=hk.spot (by omega)
  obtain ⟨hbN,vr,vn,d0,d1,d2,d3,b2,b3⟩:=C n x hx;obtain ⟨o2,c2,rfl,_⟩:=b2.shape;obtain ⟨o3,c3,rfl,_⟩:=b3.shape;have z:b<w.heap.size:=by omega
  have f0:=(j.cell (p:=⟨b,o+n*4,none⟩) z).trans d0;have f1:=(j.cell (p:=⟨b,o+n*4+1,none⟩) z).trans d1;have f2:=(j.cell (p:=⟨b,o+n*4+2,none⟩) z).trans d2;have f3:=(j.cell (p:=⟨b,o+n*4+3,none⟩) z).trans d3;have HA:=Qkf (now:=now) A hn hx
  have aC:=hid (show ∀ wx,Bd w0 wx→Calls prog 179 #[.agg #[.string c.chain,Bb c.trust,.bool false,.slice (some ⟨b,o,none⟩) (n+1) ca],.agg #[Bb x.height,Bb x.time,.slice o2 x.root.length c2,.slice o3 x.next.length c3],Bb now] wx fun e w'=>e=.returned (.bool (decide (now-x.time<c.trust)))∧Bd wx w' from fun wx hx=>by
   have M:=(j.trans (hx.mono j.size)).mono hN;have hq:ClV wx N (.agg #[.string c.chain,Bb c.trust,.bool false,.slice (some ⟨b,o,none⟩) (n+1) ca]) c:=by rw [← A,← hn];exact aB.out.below M
   exact Qin c x now _ _ N wx hq ⟨_,_,rfl,b2.below M,b3.below M⟩ S (by omega))
  rw [A] at y2;rw [hn] at y3;have D:=hid E;rw [A,hn] at D;rw [hn];have O:((n+1:Nat):Int)-1=(n:Int):=by omega
  have hj2:IntKind.i64.wrap (((n+1:Nat):Int)-1)=(n:Int):=by rw [O,Cd];omega
  have hjn:(n:Int)<((n+1:Nat):Int):=by omega
  have I:Bd w0 w0.drew:=(Bi _ _).drew;generalize hm:n+1=m at *;have e1d:0<m:=by omega
  clear E hk A C d0 d1 d2 d3 b2 b3 G hn hx aF aD aE O
  go_in
  go_wp2_with fail
  rw [D.out];have q:=hid T.lt;have aA:∀ wx,Bd w0 wx→((wx.cell? ⟨w.heap.size,0,none⟩=some (.string c.chain)∧wx.cell? ⟨w.heap.size,1,none⟩=some (Bb c.trust))∧(wx.cell? ⟨w.heap.size,2,none⟩=some (.bool false)∧wx.cell? ⟨w.heap.size,3,none⟩=some (.slice (some ⟨b,o,none⟩) m ca)))∧((wx.cell? ⟨b,o+n*4,none⟩=some (Bb x.height)∧wx.cell? ⟨b,o+n*4+1,none⟩=some (Bb x.time))∧(wx.cell? ⟨b,o+n*4+2,none⟩=some (.slice o2 x.root.length c2)∧wx.cell? ⟨b,o+n*4+3,none⟩=some (.slice o3 x.next.length c3))):=fun wx hx=>⟨⟨⟨(hx.cell (p:=⟨w.heap.size,0,none⟩) q.out).trans y0,(hx.cell (p:=⟨w.heap.size,1,none⟩) q.out).trans y1⟩,(hx.cell (p:=⟨w.heap.size,2,none⟩) q.out).trans y2,(hx.cell (p:=⟨w.heap.size,3,none⟩) q.out).trans y3⟩,⟨(hx.cell (p:=⟨b,o+n*4,none⟩) (DP z q.out)).trans f0,(hx.cell (p:=⟨b,o+n*4+1,none⟩) (DP z q.out)).trans f1⟩,(hx.cell (p:=⟨b,o+n*4+2,none⟩) (DP z q.out)).trans f2,(hx.cell (p:=⟨b,o+n*4+3,none⟩) (DP z q.out)).trans f3⟩
  have s0:((w0.cell? ⟨w.heap.size,0,none⟩=some (.string c.chain)∧w0.cell? ⟨w.heap.size,1,none⟩=some (Bb c.trust))∧(w0.cell? ⟨w.heap.size,2,none⟩=some (.bool false)∧w0.cell? ⟨w.heap.size,3,none⟩=some (.slice (some ⟨b,o,none⟩) m ca)))∧((w0.cell? ⟨b,o+n*4,none⟩=some (Bb x.height)∧w0.cell? ⟨b,o+n*4+1,none⟩=some (Bb x.time))∧(w0.cell? ⟨b,o+n*4+2,none⟩=some (.slice o2 x.root.length c2)∧w0.cell? ⟨b,o+n*4+3,none⟩=some (.slice o3 x.next.length c3))):=⟨⟨⟨y0,y1⟩,y2,y3⟩,⟨f0,f1⟩,f2,f3⟩
  go_region_held3 (fun W=>((W.cell? ⟨w.heap.size,0,none⟩=some (.string c.chain)∧W.cell? ⟨w.heap.size,1,none⟩=some (Bb c.trust))∧(W.cell? ⟨w.heap.size,2,none⟩=some (.bool false)∧W.cell? ⟨w.heap.size,3,none⟩=some (.slice (some ⟨b,o,none⟩) m ca)))∧((W.cell? ⟨b,o+n*4,none⟩=some (Bb x.height)∧W.cell? ⟨b,o+n*4+1,none⟩=some (Bb x.time))∧(W.cell? ⟨b,o+n*4+2,none⟩=some (.slice o2 x.root.length c2)∧W.cell? ⟨b,o+n*4+3,none⟩=some (.slice o3 x.next.length c3)))) (first | assumption) (first
   | (go_at_call 179;refine (aC.out _ I).mono ?_;rintro e w5 ⟨rfl,L⟩;have Y:=hid (j.trans ((I.trans L).mono j.size));have s5:=aA w5 (I.trans L);clear L))
  all_goals
   go_wp2;go_ret;exact ⟨by rw [HA];first | done | rfl,Y.out⟩
def Qu3 (f:FuncId):Prop:=∀ (c:Cl) (now:Int) (v:Value) (N:Nat) (w:World),ClV w N v c→N≤w.heap.size→c.fits →
 Calls prog f #[v,Bb now] w fun e w'=>e=.returned (Bb (QY c now))∧Bd w w'
theorem Qnd: Qu3 137:=by
 intro c now v N w hv hN j;have E:∀ wx,Bd w wx→_:=fun wx hx=>Qg8 c v N wx (hv.below (hx.mono hN)) (Bh hN hx.size) j
 obtain ⟨kv,rfl,hk⟩:=hv;obtain ⟨oa,ca,rfl,hca⟩:=hk.shape;obtain ⟨w0,b⟩:∃ w0,w.alloc (.cells #[.string c.chain,Bb c.trust,.bool c.frozen,.slice oa c.known.length ca] 78)=w0:=⟨_,rfl⟩;have q:=bof b;have m:=hid (QiW b);have k0:=m.out.cell;have D:=hid b;have HA:=hid (show QY c now=if (Qy c != 0)=true then Qy c else if (!Qgq now)=true then 3 else if c.frozen=true then 12 else 0 by grind [QY,Qgq])
 clear b hk j;generalize Qy c=z at *;generalize c.frozen=fz at *
 cases e1:z != 0
 cases e2:Qgq now
 rotate_left
 cases fz
 all_goals
  go_in
  go_wp2_with fail
  rw [D.out];refine (E _ q).mono ?_;rintro e w1 ⟨rfl,A⟩;have C:=hid (q.trans (A.mono q.size));have r2:=(m.out.below A m.out.lt).cell
  go_wp2_with (go_at_call 73;refine (Qhx _ _).mono ?_;rintro e w' ⟨rfl,G⟩;obtain rfl:=G.symm)
  go_ret;exact ⟨by rw [HA.out];simp [*];first | done | rfl,C.out⟩
def zKn:List Value:=[Bb 0,Bb 0,Bc,Bc]
theorem QnS (n:Nat) (w:World) (h:n≤1000):(Instr.makeSlice 76 (Bb (n:Int)) (Bb (n:Int))).run prog w=.ok (.slice (some ⟨w.heap.size,0,none⟩) n n) (w.alloc (.cells (([]:List KnR).map JS ++ List.replicate n zKn).flatten.toArray 31)):=by
 obtain ⟨i0,b,j,m,q⟩:=Cg Qvh;have:=run_make (P:=prog) w 76 31 i0 _ underlying76 b j .i64 .i64 (n:Int) (n:Int) (by omega) (by omega) (by rw [q];omega) (by omega)
 have e:=Qc5 (z:=#[Bb 0,Bb 0,Bc,Bc]) (k:=4) rfl (by omega) n
 rw [this,m,DB,Bv,show List.replicate n zKn=List.replicate n (#[Bb 0,Bb 0,Bc,Bc]:Array Value).toList from rfl,e];simp only [Eh,Value.cells]
def Qd6 (l:List Kn) (n G k:Nat) (wr:World):Prop:=∃ ps:List KnR,ps.length=k∧ps.map (·.k)=l.take k∧Row wr G 31 (ps.map JS ++ List.replicate (n-k) zKn).flatten∧∀ q∈ps,Qq wr (G+1) q.r q.k.root∧Qq wr (G+1) q.n q.k.next
theorem Qd6.below {l:List Kn} (h:Qd6 l n N k w) (hg:Bd w w'):Qd6 l n N k w':=by
 obtain ⟨ps,h1,h2,h3,h4⟩:=h;exact ⟨ps,h1,h2,h3.below hg h3.lt,fun q hq=>⟨QW (h4 q hq).1 hg,QW (h4 q hq).2 hg⟩⟩
theorem Qd6.cells {l:List Kn} (h:Qd6 l n N k w) (hk:k<n):w.cell? ⟨N,k*4,none⟩=some (Bb 0)∧w.cell? ⟨N,k*4+1,none⟩=some (Bb 0)∧w.cell? ⟨N,k*4+2,none⟩=some (Bc)∧w.cell? ⟨N,k*4+3,none⟩=some (Bc)∧∀ j,w.frozen? ⟨N,j,none⟩=false:=by
 obtain ⟨ps,h1,h2,h3,h4⟩:=h
 have b:(ps.map JS ++ List.replicate (n-k) zKn)[k]?=some zKn:=by
  rw [CY (by simp;omega),Bp,h1,DE,List.getElem?_replicate,if_pos (by omega)]
 have e:∀ r∈ps.map JS ++ List.replicate (n-k) zKn,r.length=4:=fun r hr=>by
  rcases Bw.1 hr with hr | hr
  ·exact QfM r hr
  ·rw [List.eq_of_mem_replicate hr];rfl
 have key:∀ j,j<4→w.cell? ⟨N,k*4+j,none⟩=zKn[j]?:=fun j hj=>by rw [h3.cell,Qbo _ k j zKn e b hj]
 exact ⟨key 0 (by omega),key 1 (by omega),key 2 (by omega),key 3 (by omega),fun j=>h3.frozen j⟩
theorem Qd6.keep {l:List Kn} (h:Qd6 l n N k w) (hk:∀ g,N≤g→w'.heap[g]?=w.heap[g]?):Qd6 l n N k w':=by
 obtain ⟨ps,h1,h2,h3,h4⟩:=h;refine ⟨ps,h1,h2,?_,fun q hq=>⟨(h4 q hq).1.keep (fun g hg=>hk g (by omega)),(h4 q hq).2.keep (fun g hg=>hk g (by omega))⟩⟩
 unfold Row at *;rw [hk N (Bj _),h3]
theorem Qd6.next {l:List Kn} {x:Kn} (h:Qd6 l n N k w) (hx:l[k]?=some x) (hk:k<n) (h1:Qq w (N+1) v4 x.root) (h2:Qq w (N+1) v5 x.next) :
  Qd6 l n N (k+1) (w.setCells N (k*4) [Bb x.height,Bb x.time,v4,v5]):=by
 obtain ⟨ps,g1,g2,g3,g4⟩:=h;have C:=Jc N [Bb x.height,Bb x.time,v4,v5] (k*4) w
 have j:∀ {v:Value} {b:Bg},Qq w (N+1) v b→Qq (w.setCells N (k*4) [Bb x.height,Bb x.time,v4,v5]) (N+1) v b:=fun {v b} ho=>by
  obtain ⟨e1,e2⟩:=ho;refine ⟨e1,?_⟩
  rcases e2 with e2 | ⟨g,cap,cur,e3,e4,e5,e6⟩
  ·exact .inl e2
  ·exact .inr ⟨g,cap,cur,e3,e4,(C.block g (BP.1 e5).1 (by simp;omega)).trans e5,e6⟩
 refine ⟨ps ++ [⟨x,v4,v5⟩],by simp [g1],?_,?_,fun q hq=>?_⟩
 ·obtain ⟨hl,rfl⟩:=Bm.1 hx
  rw [Cc,g2,Cx hl];rfl
 ·have A:(ps.map JS ++ List.replicate (n-k) zKn).flatten.length=n*4:=by
   rw [YE (k:=4)]
   ·simp [g1];omega
   ·intro r hr
    rcases Bw.1 hr with hr | hr
    ·exact QfM r hr
    ·rw [List.eq_of_mem_replicate hr];rfl
  have:=Row.setCells [Bb x.height,Bb x.time,v4,v5] (k*4) w _ g3 (by rw [A];simp;omega)
  have e:=QqF (ps:=ps.map JS) (k:=4) (m:=n-(k+1)) (z:=zKn) (r:=[Bb x.height,Bb x.time,v4,v5]) QfM rfl rfl;rw [Bp,g1,show n-(k+1)+1=n-k by omega] at e
  rw [e] at this;rw [Cc];exact this
 ·rcases Bw.1 hq with hq | hq
  ·exact ⟨j (g4 q hq).1,j (g4 q hq).2⟩
  ·obtain rfl:q=⟨x,v4,v5⟩:=by simpa using hq
   exact ⟨j h1,j h2⟩
theorem Qd6.all {l:List Kn} {base:Nat} (h:Qd6 l n g n w) (hn:l.length=n) (hm:n≤1000) (hb:base≤g):∃ ps,JN w base (.slice (some ⟨g,0,none⟩) n n) ps∧ps.map (·.k)=l:=by
 obtain ⟨ps,g1,g2,g3,g4⟩:=h;rw [DE,List.replicate_zero,CZ] at g3
 have e:∀ r∈ps.map JS,Qqu r:=fun r hr=>by
  obtain ⟨q,hq,rfl⟩:=BC.1 hr;exact KnR.ok.row (w:=w) (N:=w.heap.size) ⟨(g4 q hq).1.bytes,(g4 q hq).2.bytes⟩
 have b:=Qhp e;rw [Bp,g1] at b;refine ⟨ps,⟨J6.of_row e hb g3 (by simp [g1]) (Bj _) (by unfold maxLen;omega) b (by rw [← b,List.take_length]),fun q hq=>⟨(g4 q hq).1.mono (by omega),(g4 q hq).2.mono (by omega)⟩⟩,?_⟩
 rw [g2,BA (by omega)]
theorem QaK (c:Cl) (v:Value) (N:Nat) (w:World) (hv:ClV w N v c) (hN:N≤w.heap.size) (aN:c.fits) (aL:c.known.length≤1000) :
  Calls prog 67 #[v] w fun e w'=>Bd w w'∧∃ o m ps,e=.returned (.agg #[.string c.chain,Bb c.trust,.bool c.frozen,.slice o ps.length m])∧JN w' w.heap.size (.slice o ps.length m) ps∧ps.map (·.k)=c.known:=by
 obtain ⟨kv,rfl,hk⟩:=hv;obtain ⟨oa,ca,rfl,hca⟩:=hk.shape;have HK:=hid hk;have aW:=hid aN.2.2;obtain ⟨w0,C⟩:∃ w0,(w.alloc (.cells #[.string c.chain,Bb c.trust,.bool c.frozen,.slice oa c.known.length ca] 78)).alloc (.cells #[.string ⟨#[]⟩,Bb 0,.bool false,Bc] 78)=w0:=⟨_,rfl⟩;have A:w0.heap.size=w.heap.size+1+1:=by rw [← C];simp
 have aB:Bd w w0:=by rw [← C];exact ((Bi _ _).alloc (Bj _) _).alloc (by simp) _
 have aE:Row w0 w.heap.size 78 [.string c.chain,Bb c.trust,.bool c.frozen,.slice oa c.known.length ca]:=by rw [← C];exact (Row.new _ _ _).alloc _
 have aF:Row w0 (w.heap.size+1) 78 [.string ⟨#[]⟩,Bb 0,.bool false,Bc]:=by
  rw [← C];have:=Row.new (w.alloc (.cells #[.string c.chain,Bb c.trust,.bool c.frozen,.slice oa c.known.length ca] 78)) 78 [.string ⟨#[]⟩,Bb 0,.bool false,Bc];simp only [D6] at this;exact this
 have HN:c.known.length=c.known.length:=rfl;generalize hl:c.known=l at *;generalize aD:l.length=n at *;have aO:=QnS n w0 aL;obtain ⟨w1,I⟩:∃ w1,w0.alloc (.cells (([]:List KnR).map JS ++ List.replicate n zKn).flatten.toArray 31)=w1:=⟨_,rfl⟩;rw [I,A] at aO;have L:=bof I;have aU:Qd6 l n (w.heap.size+1+1) 0 w1:=⟨[],rfl,rfl,by rw [← I,← A,Nat.sub_zero];exact Row.new _ _ _,fun q hq=>by cases hq⟩
 have aS:=aB.trans (L.mono aB.size);have aH:=aE.below L aE.lt;have aZ:=aF.below L aF.lt;obtain ⟨⟨y0,y1,y2,y3⟩,_⟩:=aE.four;obtain ⟨⟨x0,x1,x2,x3⟩,_⟩:=aH.four;have a3:=hid C;have HSZ1:w1.heap.size=w.heap.size+1+1+1:=by rw [← I];simp [A]
 clear C aB aF I L A
 go_in
 go_wp2_with fail
 rw [a3.out,aO]
 go_wp2_with fail
 go_loopw [4,5,13] (fun _ _ i wr=>∃ k:Nat,k≤n∧i=Bb (k:Int)∧Hid (Bd w1 wr∨True)∧Hid (Qd6 l n (w.heap.size+1+1) k wr∧Row wr w.heap.size 78 [.string c.chain,Bb c.trust,.bool c.frozen,.slice oa n ca]∧Row wr (w.heap.size+1) 78 [.string ⟨#[]⟩,Bb 0,.bool false,Bc]∧Bd w wr)) (fun _ _ i _=>n-(intOf i).toNat)
 case atStart=>exact ⟨0,by omega,rfl,hid (.inr trivial),hid ⟨aU,aH,aZ,aS⟩⟩
 case round =>
  obtain ⟨k,hk,rfl,_,HT⟩:=hrel;have T:=hid HT.out.1;have aI:=hid HT.out.2.1;have aA:=hid HT.out.2.2.1;have j:=hid HT.out.2.2.2;have aG:w.heap.size+1+1<wr.heap.size:=by obtain ⟨_,_,_,h,_⟩:=T.out;exact h.lt
  by_cases aC:k<n
  ·obtain ⟨x,hx⟩:∃ x,l[k]?=some x:=⟨l[k]'(by rw [aD];exact aC),Bk _⟩
   obtain ⟨b,o,rfl,z⟩:=HK.out.spot (by omega)
   obtain ⟨hbN,vr,vn,d0,d1,d2,d3,b2,b3⟩:=z k x hx;obtain ⟨o2,c2,rfl,_⟩:=b2.shape;obtain ⟨o3,c3,rfl,_⟩:=b3.shape;have M:b<w.heap.size:=by omega
   have f0:=(j.out.cell (p:=⟨b,o+k*4,none⟩) M).trans d0;have f1:=(j.out.cell (p:=⟨b,o+k*4+1,none⟩) M).trans d1;have f2:=(j.out.cell (p:=⟨b,o+k*4+2,none⟩) M).trans d2;have f3:=(j.out.cell (p:=⟨b,o+k*4+3,none⟩) M).trans d3;obtain ⟨w2,O⟩:∃ w2,wr.alloc (.cells #[Bb x.height,Bb x.time,.slice o2 x.root.length c2,.slice o3 x.next.length c3] 31)=w2:=⟨_,rfl⟩;have E:=bof O;have aR:Row w2 wr.heap.size 31 [Bb x.height,Bb x.time,.slice o2 x.root.length c2,.slice o3 x.next.length c3]:=by rw [← O];exact Row.new _ _ _
   obtain ⟨⟨q0,q1,q2,q3⟩,_⟩:=aR.four;have D:=j.out.trans (E.mono j.out.size);have aV:=hid (QcC x (.agg #[Bb x.height,Bb x.time,.slice o2 x.root.length c2,.slice o3 x.next.length c3]) N w2 ⟨_,_,rfl,b2.below (D.mono hN),b3.below (D.mono hN)⟩ (Bh hN D.size) (aW.out x (Bn hx)));have a4:=hid O;clear z d0 d1 d2 d3 b2 b3 aR O HT
   go_wp2_with fail
   rw [a4.out]
   go_wp2_with fail
   refine aV.out.mono ?_;rintro e w3 ⟨aM,o4,c4,o5,c5,rfl,a9,aa⟩;have Y:=E.trans (aM.mono E.size);have aT:=hid (D.trans (aM.mono D.size));have S:=hid (T.out.below Y);have aJ:=rgo aI Y;have aK:=rgo aA Y;have aX:=hid (a9.mono (show w.heap.size+1+1+1≤w2.heap.size by have:=E.size;have:=aG;omega))
   have aY:=hid (aa.mono (show w.heap.size+1+1+1≤w2.heap.size by have:=E.size;have:=aG;omega))
   obtain ⟨t0,t1,t2,t3,tz⟩:=S.out.cells aC;have z0:=tz (k*4);have z1:=tz (k*4+1);have z2:=tz (k*4+2);have z3:=tz (k*4+3);go_wp2;go_roundw
   case rel =>
    refine ⟨k+1,by omega,by go_num,hid (.inr trivial),hid ⟨S.out.next hx aC aX.out aY.out,?_,?_,?_⟩⟩
    ·exact (((aJ.out.other _ (by simp only;omega)).other _ (by simp only;omega)).other _ (by simp only;omega)).other _ (by simp only;omega)
    ·exact (((aK.out.other _ (by simp only;omega)).other _ (by simp only;omega)).other _ (by simp only;omega)).other _ (by simp only;omega)
    ·have G:w.heap.size≤w.heap.size+1+1:=by omega
     exact (((aT.out.setCell G _).setCell G _).setCell G _).setCell G _
   case measure=>simp [intOf];omega
  ·have G:decide ((k:Int)<(n:Int))=false:=by simp;omega
   obtain rfl:k=n:=by omega
   obtain ⟨⟨p0,p1,p2,p3⟩,e0,e1,e2,e3⟩:=aI.out.four;obtain ⟨⟨r0,r1,r2,r3⟩,g0,g1,g2,g3⟩:=aA.out.four
   go_wp2_with fail
   have a8:=Qdd (aA.out.other (a:=⟨w.heap.size,3,none⟩) (.slice (some ⟨w.heap.size+1+1,0,none⟩) k k) (by simp only;omega)) (.string c.chain) (Bb c.trust) (.bool c.frozen) (.slice (some ⟨w.heap.size+1+1,0,none⟩) k k)
   obtain ⟨⟨u0,u1,u2,u3⟩,_⟩:=a8.four;have a5:=Z5 (j.out.setCell (p:=⟨w.heap.size,3,none⟩) (Bj _) (.slice (some ⟨w.heap.size+1+1,0,none⟩) k k)) (show w.heap.size≤w.heap.size+1 by omega) (.string c.chain) (Bb c.trust) (.bool c.frozen) (.slice (some ⟨w.heap.size+1+1,0,none⟩) k k)
   have a6:=Qib (wr.setCell ⟨w.heap.size,3,none⟩ (.slice (some ⟨w.heap.size+1+1,0,none⟩) k k)) (w.heap.size+1) (.string c.chain) (Bb c.trust) (.bool c.frozen) (.slice (some ⟨w.heap.size+1+1,0,none⟩) k k);obtain ⟨ps,aP,aQ⟩:=(T.out.keep (fun g hg=>(a6 g (by omega)).trans (Cq _ _ _ _ (by simp only;omega)))).all aD aL (show w.heap.size≤w.heap.size+1+1 by omega)
   have a7:ps.length=k:=by have:=Bl List.length aQ;rw [Bp,aD] at this;exact this
   unfold set4 at u0 u1 u2 u3;refine BG (v:=.agg #[.string c.chain,Bb c.trust,.bool c.frozen,.slice (some ⟨w.heap.size+1+1,0,none⟩) k k]) (by simp [results,results67,go_sem,u0,u1,u2,u3]) rfl ⟨a5,some ⟨w.heap.size+1+1,0,none⟩,k,ps,?_⟩
   rw [a7];exact ⟨rfl,aP,aQ⟩
def Qpl (base:Nat) (c:Cl) (X:Value) (W:World):Prop:=∃ o m ps,X=.agg #[.string c.chain,Bb c.trust,.bool c.frozen,.slice o ps.length m]∧JN W base (.slice o ps.length m) ps∧ps.map (·.k)=c.known
theorem Qpl.stay (base:Nat) (c:Cl):Yq (Qpl base c):=fun _ _ _ hb ⟨o,m,ps,e,h1,h2⟩=>⟨o,m,ps,e,h1.below hb,h2⟩
def YQ (w:World) (base:Nat) (v:Value) (l:List Kn):Prop:=∃ ps,JN w base v ps∧ps.map (·.k)=l
theorem YQ.nil (w:World) (base:Nat):YQ w base (Bc) []:=⟨[],⟨J6.nil w base,fun _ h=>by cases h⟩,rfl⟩
theorem YQ.knowns {base:Nat} {l:List Kn} (h:YQ w base v l):Jj w w.heap.size v l:=by
 obtain ⟨ps,h,rfl⟩:=h;exact h.knowns
theorem YQ.below {base:Nat} {l:List Kn} (h:YQ w base v l) (hg:Bd w w'):YQ w' base v l:=by
 obtain ⟨ps,h,e⟩:=h;exact ⟨ps,h.below hg,e⟩
theorem YQ.mono {base base':Nat} {l:List Kn} (h:YQ w base v l) (hb:base'≤base):YQ w base' v l:=by
 obtain ⟨ps,h,e⟩:=h;exact ⟨ps,h.mono hb,e⟩
theorem YQ.keep {base:Nat} {l:List Kn} (h:YQ w base v l) (hk:∀ g,base≤g→w'.heap[g]?=w.heap[g]?):YQ w' base v l:=by
 obtain ⟨ps,h,e⟩:=h;exact ⟨ps,h.keep hk,e⟩
def Qwa (f:FuncId):Prop:=∀ (ch:ByteArray) (tr:Int) (k:Kn) (v:Value) (N:Nat) (w:World),KnV w N v k→N≤w.heap.size→ch.size≤140737488351232→k.fits →
 Calls prog f #[.string ch,Bb tr,v] w fun e w'=>Bd w w'∧∃ o n m,e=.returned (.tuple #[.agg #[.string (QhP ch tr k).chain,Bb (QhP ch tr k).trust,.bool (QhP ch tr k).frozen,.slice o n m],Bb (Qy (YP ch tr k))])∧YQ w' w.heap.size (.slice o n m) (QhP ch tr k).known
theorem Qvd: Qwa 76:=by
 intro ch tr k v N w hv hN aN hf;obtain ⟨rv,nv,rfl,g1,g2⟩:=hv;obtain ⟨o1,c1,rfl,_⟩:=g1.shape;obtain ⟨o2,c2,rfl,_⟩:=g2.shape;obtain ⟨w0,C⟩:∃ w0,(w.alloc (.cells #[Bb k.height,Bb k.time,.slice o1 k.root.length c1,.slice o2 k.next.length c2] 31)).alloc (.cells #[.string ⟨#[]⟩,Bb 0,.bool false,Bc] 78)=w0:=⟨_,rfl⟩;have G:w0.heap.size=w.heap.size+1+1:=by rw [← C];simp
 have O:Bd w w0:=by rw [← C];exact ((Bi _ _).alloc (Bj _) _).alloc (by simp) _
 have aJ:Row w0 w.heap.size 31 [Bb k.height,Bb k.time,.slice o1 k.root.length c1,.slice o2 k.next.length c2]:=by rw [← C];exact (Row.new _ _ _).alloc _
 have aA:Row w0 (w.heap.size+1) 78 [.string ⟨#[]⟩,Bb 0,.bool false,Bc]:=by
  rw [← C];have:=Row.new (w.alloc (.cells #[Bb k.height,Bb k.time,.slice o1 k.root.length c1,.slice o2 k.next.length c2] 31)) 78 [.string ⟨#[]⟩,Bb 0,.bool false,Bc];simp only [D6] at this;exact this
 obtain ⟨⟨y0,y1,y2,y3⟩,_⟩:=aJ.four;have aF:=hid C;obtain ⟨w1,I⟩:∃ w1,(w0.alloc (.cells #[Bb k.height,Bb k.time,.slice o1 k.root.length c1,.slice o2 k.next.length c2] 31)).alloc (.cells #[.string ch,Bb tr,.bool false,.slice (some ⟨w.heap.size+1+1,0,none⟩) 1 1] 78)=w1:=⟨_,rfl⟩;have S:Bd w0 w1:=by rw [← I];exact ((Bi _ _).alloc (Bj _) _).alloc (by simp) _
 have b:Bd w w1:=O.trans (S.mono O.size);have aB:Row w1 (w.heap.size+1+1) 31 [Bb k.height,Bb k.time,.slice o1 k.root.length c1,.slice o2 k.next.length c2]:=by rw [← I];exact (Row.newAt _ _ _ _ G.symm).alloc _
 have aC:Row w1 (w.heap.size+1+1+1) 78 [.string ch,Bb tr,.bool false,.slice (some ⟨w.heap.size+1+1,0,none⟩) 1 1]:=by rw [← I];exact Row.newAt _ _ _ _ (by simp [G])
 have Y:Jj w1 w1.heap.size (.slice (some ⟨w.heap.size+1+1,0,none⟩) 1 1) [k]:=⟨[⟨k,.slice o1 k.root.length c1,.slice o2 k.next.length c2⟩],rfl,(Qv0 aB).mono aB.lt,fun q hq=>by
  obtain rfl:q=⟨k,.slice o1 k.root.length c1,.slice o2 k.next.length c2⟩:=by simpa using hq
  exact ⟨(g1.below (b.mono hN)).mono (Bh hN b.size),(g2.below (b.mono hN)).mono (Bh hN b.size)⟩⟩
 have E:(YP ch tr k).fits:=⟨aN,by simp [YP],fun x hx=>by
  obtain rfl:x=k:=by simpa [YP] using hx
  exact hf⟩
 have aG:=Qg8 (YP ch tr k) (.agg #[.string ch,Bb tr,.bool false,.slice (some ⟨w.heap.size+1+1,0,none⟩) 1 1]) w1.heap.size w1 ⟨_,rfl,Y⟩ (Bj _) E;have aL:∀ wx,Bd w1 wx→_:=fun wx hx=>QaK (YP ch tr k) (.agg #[.string ch,Bb tr,.bool false,.slice (some ⟨w.heap.size+1+1,0,none⟩) 1 1]) w1.heap.size wx ⟨_,rfl,Y.below hx⟩ hx.size E (by simp [YP])
 have L:=aA.below S aA.lt;obtain ⟨⟨b0,b1,b2,b3⟩,_⟩:=aC.four;clear C O S aJ aA aB Y E g1 g2 G
 by_cases hc:Qy (YP ch tr k)=0
 ·have M:=hid (show QhP ch tr k=YP ch tr k by unfold QhP;rw [if_pos hc])
  go_in
  go_wp2_with fail
  rw [aF.out,I];refine aG.mono ?_;rintro e w2 ⟨rfl,j⟩;rw [hc];have D:=b.trans (j.mono b.size);have A:=hid (L.below j L.lt);obtain ⟨⟨d0,d1,d2,d3⟩,_⟩:=(aC.below j aC.lt).four
  go_wp2_with fail
  refine (aL _ j).mono ?_;rintro e w3 ⟨aH,o,m,ps,rfl,aI,aQ⟩;have aK:=hid (D.trans (aH.mono D.size));have aE:=A.out.below aH A.out.lt;have aM:=hid A.out.lt;generalize hpl:ps.length=n at *;obtain ⟨⟨x0,x1,x2,x3⟩,z0,z1,z2,z3⟩:=aE.four;go_wp2;have aD:=Qdd aE (.string (YP ch tr k).chain) (Bb (YP ch tr k).trust) (.bool (YP ch tr k).frozen) (.slice o n m);obtain ⟨⟨u0,u1,u2,u3⟩,_⟩:=aD.four;have T:=Z5 aK.out (show w.heap.size≤w.heap.size+1 by omega) (.string (YP ch tr k).chain) (Bb (YP ch tr k).trust) (.bool (YP ch tr k).frozen) (.slice o n m)
  have aP:=Qib w3 (w.heap.size+1) (.string (YP ch tr k).chain) (Bb (YP ch tr k).trust) (.bool (YP ch tr k).frozen) (.slice o n m);have aO:=(aI.keep (fun g hg=>aP g (by have:=aM.out;omega))).mono D.size
  unfold set4 at u0 u1 u2 u3;refine BG (v:=.tuple #[.agg #[.string (YP ch tr k).chain,Bb (YP ch tr k).trust,.bool (YP ch tr k).frozen,.slice o n m],Bb 0]) (by simp [results,results76,go_sem,u0,u1,u2,u3]) rfl ⟨T,o,n,m,?_⟩
  rw [M.out,hc];exact ⟨rfl,_,aO,aQ⟩
 ·have M:=hid (show QhP ch tr k=Cl.none by unfold QhP;rw [if_neg hc])
  have e1:(Qy (YP ch tr k) != 0)=true:=by simpa using hc
  generalize Qy (YP ch tr k)=z at *
  go_in
  go_wp2_with fail
  rw [aF.out,I];refine aG.mono ?_;rintro e w2 ⟨rfl,j⟩;have D:=b.trans (j.mono b.size);have A:=hid (L.below j L.lt);obtain ⟨⟨x0,x1,x2,x3⟩,z0,z1,z2,z3⟩:=A.out.four;go_wp2;have aD:=Qdd A.out (.string ⟨#[]⟩) (Bb 0) (.bool false) (Bc);obtain ⟨⟨u0,u1,u2,u3⟩,_⟩:=aD.four;have T:=Z5 D (show w.heap.size≤w.heap.size+1 by omega) (.string ⟨#[]⟩) (Bb 0) (.bool false) (Bc)
  unfold set4 at u0 u1 u2 u3;refine BG (v:=.tuple #[.agg #[.string ⟨#[]⟩,Bb 0,.bool false,Bc],Bb z]) (by simp [results,results76,go_sem,u0,u1,u2,u3]) rfl ⟨T,none,0,0,?_⟩
  rw [M.out];exact ⟨rfl,YQ.nil _ _⟩
end Go.Proofs.YtnedafiokmjkkaaGreatDoor
