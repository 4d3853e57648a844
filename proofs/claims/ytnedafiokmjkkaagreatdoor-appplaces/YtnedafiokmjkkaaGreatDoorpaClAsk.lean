/- What package client's isTime, wrongKnown and Wrong answer. -/
import Derived.Test.YtnedafiokmjkkaaGreatDoorpaRegGo
import Derived.Test.YtnedafiokmjkkaaGreatDoorpaStOwn
namespace Go.Proofs.YtnedafiokmjkkaaGreatDoor
open Tryz
set_option maxRecDepth 1000000
set_option maxHeartbeats 8000000
open Go.RowKit
variable {W w w':World} {h:Int} {B N g k n:Nat} {t:TypeId} {v v4 v5:Value} {cs xs:List Value} {f:FuncId} {l:List (BitVec 8)} {c:Cl}
def PcB (b:Bg) (X:Value) (W:World):Prop:=∃ o n c,X=.agg #[Bb 2,.int .u64 0,.slice o n c]∧Bytes W W.heap.size (.slice o n c) b
theorem PcB.stay (b:Bg):Yr (PcB b):=fun _ _ _ hb ⟨o,n,c,e,h⟩=>⟨o,n,c,e,(h.below hb).mono hb.size⟩
def QjX (l:List Pc) (X:Value) (W:World):Prop:=JC W W.heap.size X l
theorem QjX.stay (l:List Pc):Yr (QjX l):=fun _ _ _ hb h=>JC.mono (JC.below h hb) hb.size
def WrB (b:Bg) (X:Value) (W:World):Prop:=∃ o n k c i,X=.tuple #[.slice o n k,.agg #[Bb c,Bb i]]∧Bytes W W.heap.size (.slice o n k) b
theorem WrB.stay (b:Bg):Yr (WrB b):=fun _ _ _ hb ⟨o,n,k,c,i,e,h⟩=>⟨o,n,k,c,i,e,(h.below hb).mono hb.size⟩
def ByB (b:Bg) (X:Value) (W:World):Prop:=∃ o n c,X=.slice o n c∧Bytes W W.heap.size (.slice o n c) b
theorem ByB.stay (b:Bg):Yr (ByB b):=fun _ _ _ hb ⟨o,n,c,e,h⟩=>⟨o,n,c,e,(h.below hb).mono hb.size⟩
theorem ByB.of {b:Bg} {X:Value} (h:Bytes W W.heap.size X b):ByB b X W:=by grind [Bytes,ByB]
theorem ByB.bytes {b:Bg} {X:Value} (h:ByB b X W):Bytes W W.heap.size X b:=by grind [ByB]
def FaB (X:Value) (_:World):Prop:=∃ c i,X=.agg #[Bb c,Bb i]
theorem FaB.stay: Yr FaB:=fun _ _ _ _ h=>h
def Qk0 (base:Nat) (X:Value) (W:World):Prop:=∃ k,X=.pointer (some ⟨k,0,none⟩)∧base≤k∧Row W k 180 [Bb 0,Bb 0]
theorem Qk0.stay (base:Nat):Yr (Qk0 base):=fun _ _ _ hb ⟨k,e,h1,h⟩=>⟨k,e,h1,h.below hb h.lt⟩
theorem Qtf {l:List Pc} {b:Bg} (j:l.length<2305843009213693952) (d:∀ p∈l,p.fits) (hw:YB l=.ok b) (v:Value) (W:World) (hp:QjX l v W):Calls prog 121 #[v] W fun e W'=>∃ x,e=.returned x∧Bd W W'∧WrB b x W':=by
 refine (Qdw l v W.heap.size W hp (Bj _) j d).mono ?_;rintro e W' ⟨hb,⟨x,y,hx,rfl,ho⟩ | ⟨c,i,hx,-⟩⟩
 ·obtain ⟨o,k,rfl,-⟩:=ho.shape
  rw [hw] at hx
  cases hx
  exact ⟨_,rfl,hb,o,_,k,0,0,rfl,ho.bytes⟩
 ·rw [hw] at hx
  cases hx
theorem Qei (w:World) (t:TypeId) (ps:List (Pc×Value)) (h:∀ q∈ps,Bytes w w.heap.size q.2 q.1.b) :
  JC (w.alloc (.cells (ps.flatMap YM).toArray t)) (w.alloc (.cells (ps.flatMap YM).toArray t)).heap.size (.slice (some ⟨w.heap.size,0,none⟩) ps.length ps.length) (ps.map (·.1)):=by
 have hb:Bd w (w.alloc (.cells (ps.flatMap YM).toArray t)):=(Bi _ _).alloc (Bj _) _;have hr:Row (w.alloc (.cells (ps.flatMap YM).toArray t)) w.heap.size t (ps.flatMap YM):=Row.new _ _ _;refine .inr (.inr ⟨w.heap.size,0,ps.length,by simp,by simp,fun i p hp=>?_⟩)
 obtain ⟨q,hq,rfl⟩:∃ q,ps[i]?=some q∧q.1=p:=by simpa using hp
 refine ⟨hr.lt,q.2,?_⟩
 have d:∀ j,j<3→(w.alloc (.cells (ps.flatMap YM).toArray t)).cell? ⟨w.heap.size,0+i*3+j,none⟩=(YM q)[j]?:=fun j hj=>by
  rw [hr.cell,Bq,Qlx ps i j q hq hj]
 exact ⟨d 0 (by omega),d 1 (by omega),d 2 (by omega),((h q (Bn hq)).below hb).mono hb.size⟩
def Qgg (n:Int):Bool:=decide (0≤n) && decide (n≤1000000000000)
theorem Qhp (n:Int) (w:World):Calls prog 73 #[Bb n] w fun e w'=>e=.returned (.bool (Qgg n))∧w'=w:=by
 cases e1:decide (0≤n)
 all_goals
  go_in
  go_wp2;go_ret;exact ⟨by simp [Qgg,e1];first | done | rfl,rfl⟩
theorem Qii (k:Kn) (v:Value) (N:Nat) (w:World) (hv:KnV w N v k) :
  Calls prog 39 #[v] w fun e w'=>e=.returned (Bb (YI k))∧Bd w w':=by
 obtain ⟨rv,nv,rfl,h1,h2⟩:=hv;obtain ⟨o1,c1,rfl,_⟩:=h1.shape;obtain ⟨o2,c2,rfl,_⟩:=h2.shape;obtain ⟨w0,b⟩:∃ w0,w.alloc (.cells #[Bb k.height,Bb k.time,.slice o1 k.root.length c1,.slice o2 k.next.length c2] 31)=w0:=⟨_,rfl⟩;have d:=hid (show Bd w w0 by rw [← b];exact (Bi _ _).alloc (Bj _) _)
 have kk:=(show Row w0 w.heap.size 31 [Bb k.height,Bb k.time,.slice o1 k.root.length c1,.slice o2 k.next.length c2] by rw [← b];exact Row.new _ _ _).cell
 have HW:=hid (show YI k=if (decide (k.height<1) || decide (1000000000000<k.height) || !Qgg k.time)=true then 3 else if (((k.root.length:Int) != 32) || ((k.next.length:Int) != 32))=true then 2 else 0 by grind [YI,Qgg])
 clear h1 h2
 cases q1:decide (k.height<1)
 cases q2:decide (1000000000000<k.height)
 cases q3:Qgg k.time
 rotate_left
 cases q4:((k.root.length:Int) != 32)
 cases q5:((k.next.length:Int) != 32)
 all_goals
  go_in
  go_wp2_with (go_at_call 73;refine (Qhp _ _).mono ?_;rintro e w' ⟨rfl,rfl⟩)
  go_ret;exact ⟨by rw [HW.out];simp [*];first | done | rfl,d.out⟩
def QqL (f:FuncId):Prop:=∀ (c:Cl) (v:Value) (N:Nat) (w:World),ClV w N v c→N≤w.heap.size→c.fits →
 Calls prog f #[v] w fun e w'=>e=.returned (Bb (QA c))∧Bd w w'
theorem QgZ: QqL 18:=by
 intro c v N w hv hN aH;obtain ⟨kv,rfl,hk⟩:=hv;obtain ⟨f1,f2,f3⟩:=aH;obtain ⟨oa,ca,rfl,hca⟩:=hk.shape;have HK:=hid hk;clear hk f3;obtain ⟨w0,L⟩:∃ w0,w.alloc (.cells #[.string c.chain,Bb c.trust,.bool c.frozen,.slice oa c.known.length ca] 78)=w0:=⟨_,rfl⟩;have T:=hid (show Bd w w0 by rw [← L];exact (Bi _ _).alloc (Bj _) _)
 have aD:=hid (QiI L);have k0:=aD.out.cell;have S:w0.heap.size=w.heap.size+1:=by rw [← L];simp
 have HSZ0:=hid S
 have HW:=hid (show QA c=if (!Zo c.chain)=true then 7 else if (decide (c.trust<1) || decide (1000000000000<c.trust))=true then 3 else if (decide ((c.known.length:Int)<1) || decide (30<(c.known.length:Int)))=true then 5 else Qgp (Qcg c.known 0) (c.known.drop 0) by
  rw [Ql5,BT];grind [QA])
 clear S;generalize aI:c.known.length=n at *;have HN:=hid aI;clear aI
 cases q0:Zo c.chain
 rotate_left
 cases q1:decide (c.trust<1)
 cases q2:decide (1000000000000<c.trust)
 cases q3:decide ((n:Int)<1)
 cases q4:decide (30<(n:Int))
 rotate_left
 iterate 5
  go_in
  go_wp2_with (go_at_call 13;refine (QaV _ _ f1).mono ?_;rintro e w' ⟨rfl,rfl⟩)
  go_ret;exact ⟨by rw [HW.out];simp [*];first | done | rfl,T.out⟩
 have h30:n≤30:=by simp at q4;omega
 replace HW:=hid (HW.out.trans (by simp only [q0,q1,q2,q3,q4];rfl))
 generalize hl:c.known=l at *;clear hl
 go_in
 go_wp2_with (go_at_call 13;refine (QaV _ _ f1).mono ?_;rintro e w' ⟨rfl,aM⟩;obtain rfl:=aM.symm)
 go_loopw [3,4,5,34] (fun _ _ _ i wr=>∃ k:Nat,k≤n∧i=Bb (k:Int)∧Hid (Bd w0 wr∧QA c=Qgp (Qcg l k) (l.drop k))) (fun _ _ _ i _=>n-(intOf i).toNat)
 case atStart=>exact ⟨0,by omega,rfl,hid ⟨Bi _ _,HW.out⟩⟩
 case round =>
  obtain ⟨k,hk,rfl,HT⟩:=hrel;have aJ:=HT.out.1.size;have D:=hid (T.out.trans (HT.out.1.mono T.out.size))
  by_cases aL:k<n
  ·obtain ⟨x,hx⟩:∃ x,l[k]?=some x:=⟨l[k]'(by rw [HN.out];exact aL),Bk _⟩
   obtain ⟨b,o,rfl,q⟩:=HK.out.spot (by omega)
   obtain ⟨hbN,vr,vn,d0,d1,d2,d3,b2,b3⟩:=q k x hx;obtain ⟨o2,c2,rfl,_⟩:=b2.shape;obtain ⟨o3,c3,rfl,_⟩:=b3.shape;have G:b<w.heap.size:=by omega
   have f0:=(D.out.cell (p:=⟨b,o+k*4,none⟩) G).trans d0;have f1:=(D.out.cell (p:=⟨b,o+k*4+1,none⟩) G).trans d1;have f2:=(D.out.cell (p:=⟨b,o+k*4+2,none⟩) G).trans d2;have f3:=(D.out.cell (p:=⟨b,o+k*4+3,none⟩) G).trans d3;have aF:=hid (HT.out.2.trans (QtT l k x hx));obtain ⟨w2,M⟩:∃ w2,wr.alloc (.cells #[Bb x.height,Bb x.time,.slice o2 x.root.length c2,.slice o3 x.next.length c3] 31)=w2:=⟨_,rfl⟩;have I:=bof M;have aC:=hid (HT.out.1.trans (I.mono aJ));have A:=hgo D I;have aE:=hid (QiI M);have aA:=hid M;have aB:=hid (Qii x (.agg #[Bb x.height,Bb x.time,.slice o2 x.root.length c2,.slice o3 x.next.length c3]) N w2 ⟨_,_,rfl,b2.below (A.out.mono hN),b3.below (A.out.mono hN)⟩);have HX:=hid hx;have HC:=hid q;clear d0 d1 d2 d3 I M b2 b3 hx q L
   by_cases E:YI x=0
   rotate_left
   ·have Y:=hid (aF.out.trans (if_pos E))
    have g1:(YI x != 0)=true:=by simpa using E
    clear E;generalize YI x=z at *
    go_wp2_with fail
    rw [aA.out]
    go_wp2_with fail
    refine aB.out.mono ?_;rintro e w3 ⟨rfl,m⟩;have C:=hgo A m;clear m;go_wp2;go_ret;exact ⟨by rw [Y.out];first | done | rfl,C.out⟩
   ·have d:=hid (aF.out.trans (if_neg (fun h=>h E)))
    have aG:=hid E;clear E
    cases k with
    | zero =>
     have f0':wr.cell? ⟨b,o,none⟩=some (Bb x.height):=by simpa using f0
     go_wp2_with fail
     rw [aA.out]
     go_wp2_with fail
     refine aB.out.mono ?_;rintro e w3 ⟨rfl,m⟩;rw [aG.out];have C:=hgo aC m;clear m
     go_wp2_with fail
     go_quiet (fail)
     go_wp2;go_roundw
     case rel=>exact ⟨1,by omega,by go_num,hid ⟨C.out.trans (QY _ _ _),d.out⟩⟩
     case measure=>simp [intOf];omega
    | succ j =>
     obtain ⟨y,hy⟩:∃ y,l[j]?=some y:=⟨l[j]'(by rw [HN.out];omega),Bk _⟩
     obtain ⟨_,_,_,t0,_⟩:=HC.out j y hy;replace d:=hid (show QA c=if decide (x.height≤y.height)=true then 2 else _ by rw [d.out,Qf8 l j y hy];rfl)
     have hj1:((j+1:Nat):Int)-1=(j:Int):=by omega
     have aK:=hid t0;clear hy t0
     cases g5:decide (x.height≤y.height)
     all_goals
      replace d:=hid (d.out.trans (by rw [g5]))
      go_wp2_with fail
      rw [aA.out]
      go_wp2_with fail
      refine aB.out.mono ?_;rintro e w3 ⟨rfl,m⟩;rw [aG.out];have C:=hgo aC m;have O:=hgo A m;have s0:=(aE.out.below m aE.out.lt).cell 0;have s3:=(rg aD C).cell 3;have t0':=(O.out.cell (p:=⟨b,o+j*4,none⟩) G).trans aK.out;clear m
      go_wp2_with fail
      go_quiet (fail)
      go_wp2
     ·go_roundw
      case rel=>exact ⟨j+2,by omega,by go_num,hid ⟨C.out.trans (QY _ _ _),d.out⟩⟩
      case measure=>simp [intOf];omega
     ·go_ret
      exact ⟨by rw [d.out];first | done | rfl,O.out.trans (QY _ _ _)⟩
  ·have hge:decide ((k:Int)<(n:Int))=false:=by simp;omega
   have Y:=hid (show QA c=0 by rw [HT.out.2,QrL l k (by rw [HN.out];omega)])
   go_wp2;go_ret;exact ⟨by rw [Y.out];first | done | rfl,D.out⟩
theorem QvX (a b:Int):(a == b)=decide (a=b):=by rw [Dj];simp
theorem Qpu (k:Kn) (h:Int) (g:Nat) (v:Value) (N:Nat) (w:World) (hv:KnV w N v k) (hc:w.cell? ⟨g,0,none⟩=some (Bb h)) :
  Calls prog 213 #[v,.pointer (some ⟨g,0,none⟩)] w fun e w'=>e=.returned (.bool (decide (k.height=h)))∧Bd w w':=by
 obtain ⟨rv,nv,rfl,h1,h2⟩:=hv;obtain ⟨o1,c1,rfl,_⟩:=h1.shape;obtain ⟨o2,c2,rfl,_⟩:=h2.shape;obtain ⟨w0,d⟩:∃ w0,w.alloc (.cells #[Bb k.height,Bb k.time,.slice o1 k.root.length c1,.slice o2 k.next.length c2] 31)=w0:=⟨_,rfl⟩;have b:=bof d;have j:=(show Row w0 w.heap.size 31 [Bb k.height,Bb k.time,.slice o1 k.root.length c1,.slice o2 k.next.length c2] by rw [← d];exact Row.new _ _ _)
 have k0:=j.cell 0;have hc0:=(b.cell (p:=⟨g,0,none⟩) (CF hc)).trans hc
 go_in
 go_wp2;go_ret;exact ⟨by rw [← QvX];first | done | rfl,b⟩
theorem Qpc {l:List Kn} {j:Nat} {k:Kn} (b:∀ x∈l.take j,x.height≠h) (hk:l[j]?=some k) (e:k.height=h):atK l h=some k:=by
 obtain ⟨hj,rfl⟩:=Bm.1 hk;unfold atK;have hl:l=l.take j ++ l[j] :: l.drop (j+1):=by rw [← Cs hj,CS]
 rw [show l.find? (fun k=>decide (k.height=h))=(l.take j ++ l[j] :: l.drop (j+1)).find? (fun k=>decide (k.height=h)) from Bl _ hl]
 rw [List.find?_append,List.find?_eq_none.2 (fun x hx=>by simpa using b x hx),List.find?_cons_of_pos (by simpa using e)]
 rfl
def QvT (l:List Kn) (h:Int) (i:Int):Prop:=(i = -1∧atK l h=none)∨∃ (j:Nat) (k:Kn),i=(j:Int)∧l[j]?=some k∧atK l h=some k
theorem QlD (l:List Kn) (h:Int) (g:Nat) (v:Value) (N:Nat) (w:World) (hN:N≤w.heap.size) (hv:Jh w N v l) (hlen:l.length<2305843009213693952) (hc:w.cell? ⟨g,0,none⟩=some (Bb h)) :
  Calls prog 212 #[v,.func (.func 213) #[] #[.pointer (some ⟨g,0,none⟩)]] w fun e w'=>Bd w w'∧∃ i:Int,e=.returned (Bb i)∧QvT l h i:=by
 obtain ⟨oa,ca,rfl,hca⟩:=hv.shape;have C:=CF hc;generalize hn:l.length=n at *
 go_in
 go_wp2_with fail
 go_loopw [5,8] (fun _ s8 wr=>∃ k:Nat,k≤n∧s8=Bb (k:Int)∧Hid (Bd w wr∧∀ x∈l.take k,x.height≠h)) (fun _ s8 _=>n-(intOf s8).toNat)
 case atStart=>exact ⟨0,BJ _,rfl,hid ⟨Bi _ _,by simp⟩⟩
 case round =>
  obtain ⟨k,hk,rfl,HR⟩:=hrel;have m:=HR.out.1.size
  by_cases D:k<n
  ·have hlt':(k:Int)<(n:Int):=by omega
   obtain ⟨x,hx⟩:∃ x,l[k]?=some x:=⟨l[k]'(by rw [hn];exact D),Bk _⟩
   obtain ⟨b,o,rfl,j⟩:=hv.spot (by omega)
   obtain ⟨hbN,vr,vn,d0,d1,d2,d3,b2,b3⟩:=j k x hx;obtain ⟨o2,c2,rfl,_⟩:=b2.shape;obtain ⟨o3,c3,rfl,_⟩:=b3.shape;have d:b<w.heap.size:=by omega
   have f0:=(HR.out.1.cell (p:=⟨b,o+k*4,none⟩) d).trans d0;have f1:=(HR.out.1.cell (p:=⟨b,o+k*4+1,none⟩) d).trans d1;have f2:=(HR.out.1.cell (p:=⟨b,o+k*4+2,none⟩) d).trans d2;have f3:=(HR.out.1.cell (p:=⟨b,o+k*4+3,none⟩) d).trans d3;have HF:=Qpu x h g (.agg #[Bb x.height,Bb x.time,.slice o2 x.root.length c2,.slice o3 x.next.length c3]) N wr ⟨_,_,rfl,b2.below (HR.out.1.mono hN),b3.below (HR.out.1.mono hN)⟩ ((HR.out.1.cell (p:=⟨g,0,none⟩) C).trans hc)
   by_cases he:x.height=h
   ·have HE:=hid he
    rw [BB he] at HF;clear he
    go_wp2_with fail
    refine HF.mono ?_;rintro e w5 ⟨rfl,z⟩;have q:=HR.out.1.trans (z.mono m);go_wp2;go_ret;exact ⟨q,_,rfl,.inr ⟨k,x,rfl,hx,Qpc HR.out.2 hx HE.out⟩⟩
   ·have HE:=hid he
    rw [BC he] at HF
    have A:=hid (show ∀ y∈l.take (k+1),y.height≠h from fun y hy=>by
     rw [CU,hx] at hy
     rcases By.1 hy with hy | hy
     ·exact HR.out.2 y hy
     ·obtain rfl:y=x:=by simpa using hy
      exact HE.out)
    go_wp2_with fail
    refine HF.mono ?_;rintro e w5 ⟨rfl,z⟩;have q:=HR.out.1.trans (z.mono m);go_wp2;go_roundw
    case rel=>exact ⟨k+1,by omega,by go_num,hid ⟨q,A.out⟩⟩
    case measure=>simp [intOf];omega
  ·have hge:decide ((k:Int)<(n:Int))=false:=by simp;omega
   go_wp2;go_ret;refine ⟨HR.out.1,_,rfl,.inl ⟨rfl,QqW fun x hx=>HR.out.2 x ?_⟩⟩
   rw [Bw (by rw [hn];omega)]
   exact hx
def QeN (l:List Kn) (h:Int):Kn:=(atK l h).getD Kn.none
theorem Qfy {l:List Kn} {k:Kn} (e:atK l h=some k):QeN l h=k:=by unfold QeN;rw [e];rfl
theorem QpM {l:List Kn} (e:atK l h=none):QeN l h=Kn.none:=by unfold QeN;rw [e];rfl
def AtC (f:FuncId):Prop:=∀ (c:Cl) (h:Int) (v:Value) (N:Nat) (w:World),ClV w N v c→N≤w.heap.size→c.fits →
 Calls prog f #[v,Bb h] w fun e w'=>Bd w w'∧∃ o1 c1 o2 c2,e=.returned (.tuple #[.agg #[Bb (QeN c.known h).height,Bb (QeN c.known h).time,.slice o1 (QeN c.known h).root.length c1,.slice o2 (QeN c.known h).next.length c2],.bool (atK c.known h).isSome])∧Bytes w' w'.heap.size (.slice o1 (QeN c.known h).root.length c1) (QeN c.known h).root∧Bytes w' w'.heap.size (.slice o2 (QeN c.known h).next.length c2) (QeN c.known h).next
theorem QuE: AtC 178:=by
 intro c h v N w hv hN S;obtain ⟨kv,rfl,hk⟩:=hv;obtain ⟨f1,f2,f3⟩:=S;obtain ⟨oa,ca,rfl,hca⟩:=hk.shape;obtain ⟨w0,q⟩:∃ w0,((w.alloc (.cells #[.string c.chain,Bb c.trust,.bool c.frozen,.slice oa c.known.length ca] 78)).alloc (.cells #[Bb h] 3)).alloc (.cells #[Bb 0,Bb 0,Bc,Bc] 31)=w0:=⟨_,rfl⟩;have A:Bd w w0:=by rw [← q];exact (((Bi _ _).alloc (Bj _) _).alloc (by simp) _).alloc (by simp;omega) _
 have aF:Row (w.alloc (.cells #[.string c.chain,Bb c.trust,.bool c.frozen,.slice oa c.known.length ca] 78)) w.heap.size 78 [.string c.chain,Bb c.trust,.bool c.frozen,.slice oa c.known.length ca]:=Row.new _ _ _;have T:Row w0 w.heap.size 78 [.string c.chain,Bb c.trust,.bool c.frozen,.slice oa c.known.length ca]:=by rw [← q];exact (aF.alloc _).alloc _
 have aE:Row w0 (w.heap.size+1) 3 [Bb h]:=by
  rw [← q];have:=Row.new (w.alloc (.cells #[.string c.chain,Bb c.trust,.bool c.frozen,.slice oa c.known.length ca] 78)) 3 [Bb h];simp only [D6] at this;exact this.alloc _
 have Y:Row w0 (w.heap.size+1+1) 31 [Bb 0,Bb 0,Bc,Bc]:=by
  rw [← q];have:=Row.new ((w.alloc (.cells #[.string c.chain,Bb c.trust,.bool c.frozen,.slice oa c.known.length ca] 78)).alloc (.cells #[Bb h] 3)) 31 [Bb 0,Bb 0,Bc,Bc];simp only [D6] at this;exact this
 have HI:=QlD c.known h (w.heap.size+1) _ N w0 (Bh hN A.size) (hk.below (A.mono hN)) f2 (aE.cell 0);have aA:=hid q;generalize aC:c.known.length=n at *;clear q
 go_in
 go_wp2_with fail
 rw [aA.out];refine HI.mono ?_;rintro e w1 ⟨E,i,rfl,aB⟩;have m:=A.trans (E.mono A.size);have r3:=(T.below E T.lt).cell 3;have z:=Y.below E Y.lt;obtain ⟨⟨y0,y1,y2,y3⟩,z0,z1,z2,z3⟩:=z.four
 rcases aB with ⟨rfl,aD⟩ | ⟨j,k,rfl,hj,O⟩
 ·have M:=hid aD
  have e1:decide ((-1:Int)<0)=true:=by decide
  go_wp2;have I:=Qc7 z (Bb 0) (Bb 0) (Bc) (Bc);obtain ⟨⟨u0,u1,u2,u3⟩,_⟩:=I.four;have G:=ZZ m (show w.heap.size≤w.heap.size+1+1 by omega) (Bb 0) (Bb 0) (Bc) (Bc)
  unfold set4 at u0 u1 u2 u3;refine BK (v:=.tuple #[.agg #[Bb 0,Bb 0,Bc,Bc],.bool false]) (by simp [results,results178,go_sem,u0,u1,u2,u3]) rfl ⟨G,none,0,none,0,?_⟩
  rw [QpM M.out,M.out];exact ⟨rfl,.inl ⟨rfl,rfl⟩,.inl ⟨rfl,rfl⟩⟩
 ·have hjn:j<n:=by rw [← aC];exact (Bm.1 hj).1
  obtain ⟨b,o,rfl,D⟩:=hk.spot (by omega)
  obtain ⟨hbN,vr,vn,d0,d1,d2,d3,b2,b3⟩:=D j k hj;obtain ⟨o2,c2,rfl,_⟩:=b2.shape;obtain ⟨o3,c3,rfl,_⟩:=b3.shape;have C:b<w.heap.size:=by omega
  have f0:=(m.cell (p:=⟨b,o+j*4,none⟩) C).trans d0;have f1:=(m.cell (p:=⟨b,o+j*4+1,none⟩) C).trans d1;have f2:=(m.cell (p:=⟨b,o+j*4+2,none⟩) C).trans d2;have f3:=(m.cell (p:=⟨b,o+j*4+3,none⟩) C).trans d3;have L:=And.intro b2 b3;go_wp2;have I:=Qc7 z (Bb k.height) (Bb k.time) (.slice o2 k.root.length c2) (.slice o3 k.next.length c3);obtain ⟨⟨u0,u1,u2,u3⟩,_⟩:=I.four;have G:=ZZ m (show w.heap.size≤w.heap.size+1+1 by omega) (Bb k.height) (Bb k.time) (.slice o2 k.root.length c2) (.slice o3 k.next.length c3)
  have w2:=QhY (g:=w.heap.size+1+1) (a:=Bb k.height) (b:=Bb k.time) (c:=.slice o2 k.root.length c2) (d:=.slice o3 k.next.length c3) (L.1.below (m.mono hN)) (by omega)
  have w3:=QhY (g:=w.heap.size+1+1) (a:=Bb k.height) (b:=Bb k.time) (c:=.slice o2 k.root.length c2) (d:=.slice o3 k.next.length c3) (L.2.below (m.mono hN)) (by omega)
  unfold set4 at u0 u1 u2 u3;refine BK (v:=.tuple #[.agg #[Bb k.height,Bb k.time,.slice o2 k.root.length c2,.slice o3 k.next.length c3],.bool true]) (by simp [results,results178,go_sem,u0,u1,u2,u3]) rfl ⟨G,o2,c2,o3,c3,?_⟩
  rw [Qfy O,O];exact ⟨rfl,w2,w3⟩
theorem ZW {base e:Nat} (h:w.ownsRow base e k v n xs) (hr:Row w g t cs) (ht:t≠e) (ho:∀ j,j≠g→w'.heap[j]?=w.heap[j]?):w'.ownsRow base e k v n xs:=by
 obtain ⟨h1,h2⟩:=h;refine ⟨h1,?_⟩
 rcases h2 with h2 | ⟨b,cap,cur,h3,h4,h5,h6⟩
 ·exact .inl h2
 ·refine .inr ⟨b,cap,cur,h3,h4,(ho b ?_).trans h5,h6⟩
  rintro rfl;unfold Row at hr;rw [hr] at h5;simp at h5;exact ht h5.2
def Qin (base:Nat) (l:Bg) (X:Value) (W:World):Prop:=∃ o c,X=.slice o l.length c∧Qq W base (.slice o l.length c) l
theorem Qin.stay (base:Nat) (l:Bg):Yr (Qin base l):=fun _ _ _ hb ⟨o,c,e,h⟩=>⟨o,c,e,QU h hb⟩
theorem Qin.call {b:Array Value} {base:Nat} (hB:base≤B) (h:Calls prog f b W fun e w'=>∃ v,e=.returned v∧Qq w' B v l∧Bd W w'):Calls prog f b W fun e w'=>∃ v,e=.returned v∧Bd W w'∧Qin base l v w' :=
 h.mono (by rintro e w' ⟨v,rfl,ho,hb⟩;obtain ⟨o,c,rfl,-⟩:=ho.shape;exact ⟨_,rfl,hb,o,c,rfl,ho.mono hB⟩)
theorem Qcr (k:Kn) (v:Value) (N:Nat) (w:World) (hv:KnV w N v k) (hN:N≤w.heap.size) (hf:k.fits) :
  Calls prog 100 #[v] w fun e w'=>Bd w w'∧∃ o1 c1 o2 c2,e=.returned (.agg #[Bb k.height,Bb k.time,.slice o1 k.root.length c1,.slice o2 k.next.length c2])∧Qq w' w.heap.size (.slice o1 k.root.length c1) k.root∧Qq w' w.heap.size (.slice o2 k.next.length c2) k.next:=by
 obtain ⟨rv,nv,rfl,h1,h2⟩:=hv;obtain ⟨o1,c1,rfl,-⟩:=h1.shape;obtain ⟨o2,c2,rfl,-⟩:=h2.shape;have HC:=fun W (hb:Bd w W)=>And.intro (Qfr k.root _ N W (h1.below (hb.mono hN)) (Bh hN hb.size) (by have:=hf.1;omega)) (Qfr k.next _ N W (h2.below (hb.mono hN)) (Bh hN hb.size) (by have:=hf.2;omega))
 go_in
 go_upto_region 1 with fail
 refine QcS ?_;intro w0 F hs;apply JQ 7 (by kernel_rfl) (fun W hb=>(F.go hb).r0.cell) (by kernel_rfl)
 ·intro σ;simp [Qj];exact rfl
 iterate 2 (apply RK.val rfl;· intro σ W hb hc ⟨hd,hu⟩;simp at hd hu;go_simp;exact rfl)
 apply RK.callG (Qin w.heap.size k.root) (Qin.stay _ _) rfl
 ·intro σ W hb hc ⟨hd,hu⟩;simp at hd hu
  exact ⟨_,_,by go_simp <;> first | exact rfl | exact ⟨rfl,rfl⟩,Qin.call (F.go hb).b.size (HC W (F.go hb).b).1⟩
 iterate 2 (apply RK.val rfl;· intro σ W hb hc ⟨hd,hu⟩;simp at hd hu;go_simp;exact rfl)
 apply RK.callG (Qin w.heap.size k.next) (Qin.stay _ _) rfl
 ·intro σ W hb hc ⟨hd,hu⟩;simp at hd hu
  exact ⟨_,_,by go_simp <;> first | exact rfl | exact ⟨rfl,rfl⟩,Qin.call (F.go hb).b.size (HC W (F.go hb).b).2⟩
 apply RK.val rfl;· intro σ W hb hc ⟨hd,hu⟩;simp at hd hu;go_simp;exact rfl
 intro σ W hb _;simp only [Jm,Bv,Bz,Nat.reduceAdd];intro hF;obtain ⟨-,-,⟨p1,d1,y1,g1⟩,-,-,⟨p2,d2,y2,g2⟩,e6,-⟩:=hF;have F:=F.go hb;have HG:=And.intro g1 g2;have z:=F.r0.frozen;simp only [BV,BT,e6,y1,y2]
 go_upto_region 2 with fail
 refine ((F.set1 0 2 (.slice p1 k.root.length d1) rfl).set1 0 3 (.slice p2 k.next.length d2) rfl).named (((JG.refl _ _).cell 2 _).cell 3 _) ?_;intro w3 F3 O3;have d:=hid (And.intro (ZW HG.1 F.r0 (by decide) O3.same) (ZW HG.2 F.r0 (by decide) O3.same))
 go_wp2_with (first | refine F3.load 0 rfl Y5 ?_ | (refine F3.store 1 rfl Y5 (by simp) ?_;intro w4 F4 O4))
 exact Qe5 results100 rfl F4.r1 Y5 rfl ⟨F4.b,_,_,_,_,rfl,ZW d.out.1 F3.r1 (by decide) O4.same,ZW d.out.2 F3.r1 (by decide) O4.same⟩
theorem Qia (c:Cl) (k:Kn) (now:Int) (cv v:Value) (N:Nat) (w:World) (hc:ClV w N cv c) (hv:KnV w N v k) (h1:0≤now∧now≤1000000000000) (h2:0≤k.time∧k.time≤1000000000000) :
  Calls prog 179 #[cv,v,Bb now] w fun e w'=>e=.returned (.bool (decide (now-k.time<c.trust)))∧Bd w w':=by
 obtain ⟨kv,rfl,hk⟩:=hc;obtain ⟨oa,ca,rfl,_⟩:=hk.shape;obtain ⟨rv,nv,rfl,g1,g2⟩:=hv;obtain ⟨o1,c1,rfl,_⟩:=g1.shape;obtain ⟨o2,c2,rfl,_⟩:=g2.shape;obtain ⟨w0,b⟩:∃ w0,(w.alloc (.cells #[.string c.chain,Bb c.trust,.bool c.frozen,.slice oa c.known.length ca] 78)).alloc (.cells #[Bb k.height,Bb k.time,.slice o1 k.root.length c1,.slice o2 k.next.length c2] 31)=w0:=⟨_,rfl⟩;have d:Bd w w0:=by rw [← b];exact ((Bi _ _).alloc (Bj _) _).alloc (by simp) _
 have m:Row w0 w.heap.size 78 [.string c.chain,Bb c.trust,.bool c.frozen,.slice oa c.known.length ca]:=by rw [← b];exact (Row.new _ _ _).alloc _
 have q:Row w0 (w.heap.size+1) 31 [Bb k.height,Bb k.time,.slice o1 k.root.length c1,.slice o2 k.next.length c2]:=by
  rw [← b];have:=Row.new (w.alloc (.cells #[.string c.chain,Bb c.trust,.bool c.frozen,.slice oa c.known.length ca] 78)) 31 [Bb k.height,Bb k.time,.slice o1 k.root.length c1,.slice o2 k.next.length c2];simp only [D6] at this;exact this
 have j:=hid b;clear m q b
 go_in
 go_wp2;go_ret;rw [j.out];exact ⟨by first | done | rfl,d⟩
def Qth (f:FuncId):Prop:=∀ (c:Cl) (now:Int) (v:Value) (N:Nat) (w:World),ClV w N v c→N≤w.heap.size→QA c=0→0≤now∧now≤1000000000000 →
 Calls prog f #[v,Bb now] w fun e w'=>e=.returned (.bool (YK c now))∧Bd w w'
theorem QgI (now:Int) (h:c.frozen=true):YK c now=false:=by unfold YK;rw [h];rfl
theorem Qj0 {now:Int} {k:Kn} (h:c.frozen=false) (hn:c.known.length=n+1) (hk:c.known[n]?=some k):YK c now=decide (now-k.time<c.trust):=by
 unfold YK;rw [h,List.getLast?_eq_getElem?,hn,DD,hk];rfl
theorem Qom: Qth 141:=by
 intro c now v N w hv hN hc O;have aA:=hid hv;obtain ⟨kv,rfl,hk⟩:=hv;obtain ⟨oa,ca,rfl,hca⟩:=hk.shape;obtain ⟨w0,D⟩:∃ w0,w.alloc (.cells #[.string c.chain,Bb c.trust,.bool c.frozen,.slice oa c.known.length ca] 78)=w0:=⟨_,rfl⟩;have d:=bof D;have S:Row w0 w.heap.size 78 [.string c.chain,Bb c.trust,.bool c.frozen,.slice oa c.known.length ca]:=by rw [← D];exact Row.new _ _ _
 obtain ⟨⟨y0,y1,y2,y3⟩,_⟩:=S.four
 cases z:c.frozen with
 | true =>
  have HA:=QgI now z;rw [z] at y2;have C:=hid D;rw [z] at C
  go_in
  go_wp2_with fail
  rw [C.out]
  go_quiet (fail)
  go_wp2;go_ret;exact ⟨by rw [HA];first | done | rfl,d.trans (QY _ _ _)⟩
 | false =>
  obtain ⟨_,_,⟨aC,aD⟩,E,_⟩:=(Yt c).1 hc;obtain ⟨n,hn⟩:∃ n,c.known.length=n+1:=⟨c.known.length-1,by omega⟩
  obtain ⟨x,hx⟩:∃ x,c.known[n]?=some x:=⟨c.known[n]'(by omega),Bk _⟩
  have aE:=((Qih x).1 (E x (Bn hx))).1;obtain ⟨b,o,rfl,A⟩:=hk.spot (by omega)
  obtain ⟨hbN,vr,vn,d0,d1,d2,d3,b2,b3⟩:=A n x hx;obtain ⟨o2,c2,rfl,_⟩:=b2.shape;obtain ⟨o3,c3,rfl,_⟩:=b3.shape;have q:b<w.heap.size:=by omega
  have f0:=(d.cell (p:=⟨b,o+n*4,none⟩) q).trans d0;have f1:=(d.cell (p:=⟨b,o+n*4+1,none⟩) q).trans d1;have f2:=(d.cell (p:=⟨b,o+n*4+2,none⟩) q).trans d2;have f3:=(d.cell (p:=⟨b,o+n*4+3,none⟩) q).trans d3;have HA:=Qj0 (now:=now) z hn hx
  have aB:=hid (show ∀ wx,Bd w0 wx→Calls prog 179 #[.agg #[.string c.chain,Bb c.trust,.bool false,.slice (some ⟨b,o,none⟩) (n+1) ca],.agg #[Bb x.height,Bb x.time,.slice o2 x.root.length c2,.slice o3 x.next.length c3],Bb now] wx fun e w'=>e=.returned (.bool (decide (now-x.time<c.trust)))∧Bd wx w' from fun wx hx=>by
   have L:=(d.trans (hx.mono d.size)).mono hN;have hq:ClV wx N (.agg #[.string c.chain,Bb c.trust,.bool false,.slice (some ⟨b,o,none⟩) (n+1) ca]) c:=by rw [← z,← hn];exact aA.out.below L
   exact Qia c x now _ _ N wx hq ⟨_,_,rfl,b2.below L,b3.below L⟩ O (by omega))
  rw [z] at y2;rw [hn] at y3;have C:=hid D;rw [z,hn] at C;rw [hn];have M:((n+1:Nat):Int)-1=(n:Int):=by omega
  have hj2:IntKind.i64.wrap (((n+1:Nat):Int)-1)=(n:Int):=by rw [M,Ce];omega
  have hjn:(n:Int)<((n+1:Nat):Int):=by omega
  have G:Bd w0 w0.drew:=(Bi _ _).drew;generalize hm:n+1=m at *;have e1d:0<m:=by omega
  clear D hk z A d0 d1 d2 d3 b2 b3 E hn hx aE aC aD M
  go_in
  go_wp2_with fail
  rw [C.out];have j:=hid S.lt;have Y:∀ wx,Bd w0 wx→((wx.cell? ⟨w.heap.size,0,none⟩=some (.string c.chain)∧wx.cell? ⟨w.heap.size,1,none⟩=some (Bb c.trust))∧(wx.cell? ⟨w.heap.size,2,none⟩=some (.bool false)∧wx.cell? ⟨w.heap.size,3,none⟩=some (.slice (some ⟨b,o,none⟩) m ca)))∧((wx.cell? ⟨b,o+n*4,none⟩=some (Bb x.height)∧wx.cell? ⟨b,o+n*4+1,none⟩=some (Bb x.time))∧(wx.cell? ⟨b,o+n*4+2,none⟩=some (.slice o2 x.root.length c2)∧wx.cell? ⟨b,o+n*4+3,none⟩=some (.slice o3 x.next.length c3))):=fun wx hx=>⟨⟨⟨(hx.cell (p:=⟨w.heap.size,0,none⟩) j.out).trans y0,(hx.cell (p:=⟨w.heap.size,1,none⟩) j.out).trans y1⟩,(hx.cell (p:=⟨w.heap.size,2,none⟩) j.out).trans y2,(hx.cell (p:=⟨w.heap.size,3,none⟩) j.out).trans y3⟩,⟨(hx.cell (p:=⟨b,o+n*4,none⟩) (DQ q j.out)).trans f0,(hx.cell (p:=⟨b,o+n*4+1,none⟩) (DQ q j.out)).trans f1⟩,(hx.cell (p:=⟨b,o+n*4+2,none⟩) (DQ q j.out)).trans f2,(hx.cell (p:=⟨b,o+n*4+3,none⟩) (DQ q j.out)).trans f3⟩
  have s0:((w0.cell? ⟨w.heap.size,0,none⟩=some (.string c.chain)∧w0.cell? ⟨w.heap.size,1,none⟩=some (Bb c.trust))∧(w0.cell? ⟨w.heap.size,2,none⟩=some (.bool false)∧w0.cell? ⟨w.heap.size,3,none⟩=some (.slice (some ⟨b,o,none⟩) m ca)))∧((w0.cell? ⟨b,o+n*4,none⟩=some (Bb x.height)∧w0.cell? ⟨b,o+n*4+1,none⟩=some (Bb x.time))∧(w0.cell? ⟨b,o+n*4+2,none⟩=some (.slice o2 x.root.length c2)∧w0.cell? ⟨b,o+n*4+3,none⟩=some (.slice o3 x.next.length c3))):=⟨⟨⟨y0,y1⟩,y2,y3⟩,⟨f0,f1⟩,f2,f3⟩
  go_region_held3 (fun W=>((W.cell? ⟨w.heap.size,0,none⟩=some (.string c.chain)∧W.cell? ⟨w.heap.size,1,none⟩=some (Bb c.trust))∧(W.cell? ⟨w.heap.size,2,none⟩=some (.bool false)∧W.cell? ⟨w.heap.size,3,none⟩=some (.slice (some ⟨b,o,none⟩) m ca)))∧((W.cell? ⟨b,o+n*4,none⟩=some (Bb x.height)∧W.cell? ⟨b,o+n*4+1,none⟩=some (Bb x.time))∧(W.cell? ⟨b,o+n*4+2,none⟩=some (.slice o2 x.root.length c2)∧W.cell? ⟨b,o+n*4+3,none⟩=some (.slice o3 x.next.length c3)))) (first | assumption) (first
   | (go_at_call 179;refine (aB.out _ G).mono ?_;rintro e w5 ⟨rfl,I⟩;have T:=hid (d.trans ((G.trans I).mono d.size));have s5:=Y w5 (G.trans I);clear I))
  all_goals
   go_wp2;go_ret;exact ⟨by rw [HA];first | done | rfl,T.out⟩
def QuM (f:FuncId):Prop:=∀ (c:Cl) (now:Int) (v:Value) (N:Nat) (w:World),ClV w N v c→N≤w.heap.size→c.fits →
 Calls prog f #[v,Bb now] w fun e w'=>e=.returned (Bb (QV c now))∧Bd w w'
theorem QmM: QuM 137:=by
 intro c now v N w hv hN d;have D:∀ wx,Bd w wx→_:=fun wx hx=>QgZ c v N wx (hv.below (hx.mono hN)) (Bh hN hx.size) d
 obtain ⟨kv,rfl,hk⟩:=hv;obtain ⟨oa,ca,rfl,hca⟩:=hk.shape;obtain ⟨w0,b⟩:∃ w0,w.alloc (.cells #[.string c.chain,Bb c.trust,.bool c.frozen,.slice oa c.known.length ca] 78)=w0:=⟨_,rfl⟩;have m:=bof b;have j:=hid (QiI b);have k0:=j.out.cell;have C:=hid b;have HA:=hid (show QV c now=if (QA c != 0)=true then QA c else if (!Qgg now)=true then 3 else if c.frozen=true then 12 else 0 by grind [QV,Qgg])
 clear b hk d;generalize QA c=z at *;generalize c.frozen=fz at *
 cases e1:z != 0
 cases e2:Qgg now
 rotate_left
 cases fz
 all_goals
  go_in
  go_wp2_with fail
  rw [C.out];refine (D _ m).mono ?_;rintro e w1 ⟨rfl,q⟩;have A:=hid (m.trans (q.mono m.size));have r2:=(j.out.below q j.out.lt).cell
  go_wp2_with (go_at_call 73;refine (Qhp _ _).mono ?_;rintro e w' ⟨rfl,E⟩;obtain rfl:=E.symm)
  go_ret;exact ⟨by rw [HA.out];simp [*];first | done | rfl,A.out⟩
def zKn:List Value:=[Bb 0,Bb 0,Bc,Bc]
theorem Qns (n:Nat) (w:World) (h:n≤1000):(Instr.makeSlice 76 (Bb (n:Int)) (Bb (n:Int))).run prog w=.ok (.slice (some ⟨w.heap.size,0,none⟩) n n) (w.alloc (.cells (([]:List KnR).map JP ++ List.replicate n zKn).flatten.toArray 31)):=by
 obtain ⟨i0,b,d,j,m⟩:=Cj QuZ;have:=run_make (P:=prog) w 76 31 i0 _ underlying76 b d .i64 .i64 (n:Int) (n:Int) (by omega) (by omega) (by rw [m];omega) (by omega)
 have e:=QcZ (z:=#[Bb 0,Bb 0,Bc,Bc]) (k:=4) rfl (by omega) n
 rw [this,j,DC,Bv,show List.replicate n zKn=List.replicate n (#[Bb 0,Bb 0,Bc,Bc]:Array Value).toList from rfl,e];simp only [Ei,Value.cells]
def QdZ (l:List Kn) (n G k:Nat) (wr:World):Prop:=∃ ps:List KnR,ps.length=k∧ps.map (·.k)=l.take k∧Row wr G 31 (ps.map JP ++ List.replicate (n-k) zKn).flatten∧∀ q∈ps,Qq wr (G+1) q.r q.k.root∧Qq wr (G+1) q.n q.k.next
theorem QdZ.below {l:List Kn} (h:QdZ l n N k w) (hg:Bd w w'):QdZ l n N k w':=by
 obtain ⟨ps,h1,h2,h3,h4⟩:=h;exact ⟨ps,h1,h2,h3.below hg h3.lt,fun q hq=>⟨QU (h4 q hq).1 hg,QU (h4 q hq).2 hg⟩⟩
theorem QdZ.cells {l:List Kn} (h:QdZ l n N k w) (hk:k<n):w.cell? ⟨N,k*4,none⟩=some (Bb 0)∧w.cell? ⟨N,k*4+1,none⟩=some (Bb 0)∧w.cell? ⟨N,k*4+2,none⟩=some (Bc)∧w.cell? ⟨N,k*4+3,none⟩=some (Bc)∧∀ j,w.frozen? ⟨N,j,none⟩=false:=by
 obtain ⟨ps,h1,h2,h3,h4⟩:=h
 have b:(ps.map JP ++ List.replicate (n-k) zKn)[k]?=some zKn:=by
  rw [CY (by simp;omega),Bp,h1,DF,List.getElem?_replicate,if_pos (by omega)]
 have d:∀ r∈ps.map JP ++ List.replicate (n-k) zKn,r.length=4:=fun r hr=>by
  rcases By.1 hr with hr | hr
  ·exact Qfz r hr
  ·rw [List.eq_of_mem_replicate hr];rfl
 have key:∀ j,j<4→w.cell? ⟨N,k*4+j,none⟩=zKn[j]?:=fun j hj=>by rw [h3.cell,Qbg _ k j zKn d b hj]
 exact ⟨key 0 (by omega),key 1 (by omega),key 2 (by omega),key 3 (by omega),fun j=>h3.frozen j⟩
theorem QdZ.keep {l:List Kn} (h:QdZ l n N k w) (hk:∀ g,N≤g→w'.heap[g]?=w.heap[g]?):QdZ l n N k w':=by
 obtain ⟨ps,h1,h2,h3,h4⟩:=h;refine ⟨ps,h1,h2,?_,fun q hq=>⟨(h4 q hq).1.keep (fun g hg=>hk g (by omega)),(h4 q hq).2.keep (fun g hg=>hk g (by omega))⟩⟩
 unfold Row at *;rw [hk N (Bj _),h3]
theorem QdZ.next {l:List Kn} {x:Kn} (h:QdZ l n N k w) (hx:l[k]?=some x) (hk:k<n) (h1:Qq w (N+1) v4 x.root) (h2:Qq w (N+1) v5 x.next) :
  QdZ l n N (k+1) (w.setCells N (k*4) [Bb x.height,Bb x.time,v4,v5]):=by
 obtain ⟨ps,g1,g2,g3,g4⟩:=h;have A:=Jb N [Bb x.height,Bb x.time,v4,v5] (k*4) w
 have d:∀ {v:Value} {b:Bg},Qq w (N+1) v b→Qq (w.setCells N (k*4) [Bb x.height,Bb x.time,v4,v5]) (N+1) v b:=fun {v b} ho=>by
  obtain ⟨e1,e2⟩:=ho;refine ⟨e1,?_⟩
  rcases e2 with e2 | ⟨g,cap,cur,e3,e4,e5,e6⟩
  ·exact .inl e2
  ·exact .inr ⟨g,cap,cur,e3,e4,(A.block g (BQ.1 e5).1 (by simp;omega)).trans e5,e6⟩
 refine ⟨ps ++ [⟨x,v4,v5⟩],by simp [g1],?_,?_,fun q hq=>?_⟩
 ·obtain ⟨hl,rfl⟩:=Bm.1 hx
  rw [Cc,g2,Cx hl];rfl
 ·have j:(ps.map JP ++ List.replicate (n-k) zKn).flatten.length=n*4:=by
   rw [YD (k:=4)]
   ·simp [g1];omega
   ·intro r hr
    rcases By.1 hr with hr | hr
    ·exact Qfz r hr
    ·rw [List.eq_of_mem_replicate hr];rfl
  have:=Row.setCells [Bb x.height,Bb x.time,v4,v5] (k*4) w _ g3 (by rw [j];simp;omega)
  have e:=Qqi (ps:=ps.map JP) (k:=4) (m:=n-(k+1)) (z:=zKn) (r:=[Bb x.height,Bb x.time,v4,v5]) Qfz rfl rfl;rw [Bp,g1,show n-(k+1)+1=n-k by omega] at e
  rw [e] at this;rw [Cc];exact this
 ·rcases By.1 hq with hq | hq
  ·exact ⟨d (g4 q hq).1,d (g4 q hq).2⟩
  ·obtain rfl:q=⟨x,v4,v5⟩:=by simpa using hq
   exact ⟨d h1,d h2⟩
theorem QdZ.all {l:List Kn} {base:Nat} (h:QdZ l n g n w) (hn:l.length=n) (hm:n≤1000) (hb:base≤g):∃ ps,JK w base (.slice (some ⟨g,0,none⟩) n n) ps∧ps.map (·.k)=l:=by
 obtain ⟨ps,g1,g2,g3,g4⟩:=h;rw [DF,List.replicate_zero,CZ] at g3
 have d:∀ r∈ps.map JP,Qp7 r:=fun r hr=>by
  obtain ⟨q,hq,rfl⟩:=BG.1 hr;exact KnR.ok.row (w:=w) (N:=w.heap.size) ⟨(g4 q hq).1.bytes,(g4 q hq).2.bytes⟩
 have b:=Qhi d;rw [Bp,g1] at b;refine ⟨ps,⟨J0.of_row d hb g3 (by simp [g1]) (Bj _) (by unfold maxLen;omega) b (by rw [← b,List.take_length]),fun q hq=>⟨(g4 q hq).1.mono (by omega),(g4 q hq).2.mono (by omega)⟩⟩,?_⟩
 rw [g2,Bw (by omega)]
theorem QaE (c:Cl) (v:Value) (N:Nat) (w:World) (hv:ClV w N v c) (hN:N≤w.heap.size) (aM:c.fits) (aK:c.known.length≤1000) :
  Calls prog 67 #[v] w fun e w'=>Bd w w'∧∃ o m ps,e=.returned (.agg #[.string c.chain,Bb c.trust,.bool c.frozen,.slice o ps.length m])∧JK w' w.heap.size (.slice o ps.length m) ps∧ps.map (·.k)=c.known:=by
 obtain ⟨kv,rfl,hk⟩:=hv;obtain ⟨oa,ca,rfl,hca⟩:=hk.shape;have HK:=hid hk;have aV:=hid aM.2.2;obtain ⟨w0,A⟩:∃ w0,(w.alloc (.cells #[.string c.chain,Bb c.trust,.bool c.frozen,.slice oa c.known.length ca] 78)).alloc (.cells #[.string ⟨#[]⟩,Bb 0,.bool false,Bc] 78)=w0:=⟨_,rfl⟩;have z:w0.heap.size=w.heap.size+1+1:=by rw [← A];simp
 have aA:Bd w w0:=by rw [← A];exact ((Bi _ _).alloc (Bj _) _).alloc (by simp) _
 have aD:Row w0 w.heap.size 78 [.string c.chain,Bb c.trust,.bool c.frozen,.slice oa c.known.length ca]:=by rw [← A];exact (Row.new _ _ _).alloc _
 have aE:Row w0 (w.heap.size+1) 78 [.string ⟨#[]⟩,Bb 0,.bool false,Bc]:=by
  rw [← A];have:=Row.new (w.alloc (.cells #[.string c.chain,Bb c.trust,.bool c.frozen,.slice oa c.known.length ca] 78)) 78 [.string ⟨#[]⟩,Bb 0,.bool false,Bc];simp only [D6] at this;exact this
 have HN:c.known.length=c.known.length:=rfl;generalize hl:c.known=l at *;generalize aC:l.length=n at *;have aN:=Qns n w0 aK;obtain ⟨w1,G⟩:∃ w1,w0.alloc (.cells (([]:List KnR).map JP ++ List.replicate n zKn).flatten.toArray 31)=w1:=⟨_,rfl⟩;rw [G,z] at aN;have I:=bof G;have aT:QdZ l n (w.heap.size+1+1) 0 w1:=⟨[],rfl,rfl,by rw [← G,← z,Nat.sub_zero];exact Row.new _ _ _,fun q hq=>by cases hq⟩
 have aR:=aA.trans (I.mono aA.size);have aG:=aD.below I aD.lt;have aY:=aE.below I aE.lt;obtain ⟨⟨y0,y1,y2,y3⟩,_⟩:=aD.four;obtain ⟨⟨x0,x1,x2,x3⟩,_⟩:=aG.four;have aZ:=hid A;have HSZ1:w1.heap.size=w.heap.size+1+1+1:=by rw [← G];simp [z]
 clear A aA aE G I z
 go_in
 go_wp2_with fail
 rw [aZ.out,aN]
 go_wp2_with fail
 go_loopw [4,5,13] (fun _ _ i wr=>∃ k:Nat,k≤n∧i=Bb (k:Int)∧Hid (Bd w1 wr∨True)∧Hid (QdZ l n (w.heap.size+1+1) k wr∧Row wr w.heap.size 78 [.string c.chain,Bb c.trust,.bool c.frozen,.slice oa n ca]∧Row wr (w.heap.size+1) 78 [.string ⟨#[]⟩,Bb 0,.bool false,Bc]∧Bd w wr)) (fun _ _ i _=>n-(intOf i).toNat)
 case atStart=>exact ⟨0,by omega,rfl,hid (.inr trivial),hid ⟨aT,aG,aY,aR⟩⟩
 case round =>
  obtain ⟨k,hk,rfl,_,HT⟩:=hrel;have S:=hid HT.out.1;have aH:=hid HT.out.2.1;have Y:=hid HT.out.2.2.1;have d:=hid HT.out.2.2.2;have aF:w.heap.size+1+1<wr.heap.size:=by obtain ⟨_,_,_,h,_⟩:=S.out;exact h.lt
  by_cases aB:k<n
  ·obtain ⟨x,hx⟩:∃ x,l[k]?=some x:=⟨l[k]'(by rw [aC];exact aB),Bk _⟩
   obtain ⟨b,o,rfl,j⟩:=HK.out.spot (by omega)
   obtain ⟨hbN,vr,vn,d0,d1,d2,d3,b2,b3⟩:=j k x hx;obtain ⟨o2,c2,rfl,_⟩:=b2.shape;obtain ⟨o3,c3,rfl,_⟩:=b3.shape;have L:b<w.heap.size:=by omega
   have f0:=(d.out.cell (p:=⟨b,o+k*4,none⟩) L).trans d0;have f1:=(d.out.cell (p:=⟨b,o+k*4+1,none⟩) L).trans d1;have f2:=(d.out.cell (p:=⟨b,o+k*4+2,none⟩) L).trans d2;have f3:=(d.out.cell (p:=⟨b,o+k*4+3,none⟩) L).trans d3;obtain ⟨w2,M⟩:∃ w2,wr.alloc (.cells #[Bb x.height,Bb x.time,.slice o2 x.root.length c2,.slice o3 x.next.length c3] 31)=w2:=⟨_,rfl⟩;have D:=bof M;have aQ:Row w2 wr.heap.size 31 [Bb x.height,Bb x.time,.slice o2 x.root.length c2,.slice o3 x.next.length c3]:=by rw [← M];exact Row.new _ _ _
   obtain ⟨⟨q0,q1,q2,q3⟩,_⟩:=aQ.four;have C:=d.out.trans (D.mono d.out.size);have aU:=hid (Qcr x (.agg #[Bb x.height,Bb x.time,.slice o2 x.root.length c2,.slice o3 x.next.length c3]) N w2 ⟨_,_,rfl,b2.below (C.mono hN),b3.below (C.mono hN)⟩ (Bh hN C.size) (aV.out x (Bn hx)));have a3:=hid M;clear j d0 d1 d2 d3 b2 b3 aQ M HT
   go_wp2_with fail
   rw [a3.out]
   go_wp2_with fail
   refine aU.out.mono ?_;rintro e w3 ⟨aL,o4,c4,o5,c5,rfl,a8,a9⟩;have T:=D.trans (aL.mono D.size);have aS:=hid (C.trans (aL.mono C.size));have O:=hid (S.out.below T);have aI:=rgo aH T;have aJ:=rgo Y T;have aW:=hid (a8.mono (show w.heap.size+1+1+1≤w2.heap.size by have:=D.size;have:=aF;omega))
   have aX:=hid (a9.mono (show w.heap.size+1+1+1≤w2.heap.size by have:=D.size;have:=aF;omega))
   obtain ⟨t0,t1,t2,t3,tz⟩:=O.out.cells aB;have z0:=tz (k*4);have z1:=tz (k*4+1);have z2:=tz (k*4+2);have z3:=tz (k*4+3);go_wp2;go_roundw
   case rel =>
    refine ⟨k+1,by omega,by go_num,hid (.inr trivial),hid ⟨O.out.next hx aB aW.out aX.out,?_,?_,?_⟩⟩
    ·exact (((aI.out.other _ (by simp only;omega)).other _ (by simp only;omega)).other _ (by simp only;omega)).other _ (by simp only;omega)
    ·exact (((aJ.out.other _ (by simp only;omega)).other _ (by simp only;omega)).other _ (by simp only;omega)).other _ (by simp only;omega)
    ·have E:w.heap.size≤w.heap.size+1+1:=by omega
     exact (((aS.out.setCell E _).setCell E _).setCell E _).setCell E _
   case measure=>simp [intOf];omega
  ·have E:decide ((k:Int)<(n:Int))=false:=by simp;omega
   obtain rfl:k=n:=by omega
   obtain ⟨⟨p0,p1,p2,p3⟩,e0,e1,e2,e3⟩:=aH.out.four;obtain ⟨⟨r0,r1,r2,r3⟩,g0,g1,g2,g3⟩:=Y.out.four
   go_wp2_with fail
   have a7:=Qc7 (Y.out.other (a:=⟨w.heap.size,3,none⟩) (.slice (some ⟨w.heap.size+1+1,0,none⟩) k k) (by simp only;omega)) (.string c.chain) (Bb c.trust) (.bool c.frozen) (.slice (some ⟨w.heap.size+1+1,0,none⟩) k k)
   obtain ⟨⟨u0,u1,u2,u3⟩,_⟩:=a7.four;have a4:=ZZ (d.out.setCell (p:=⟨w.heap.size,3,none⟩) (Bj _) (.slice (some ⟨w.heap.size+1+1,0,none⟩) k k)) (show w.heap.size≤w.heap.size+1 by omega) (.string c.chain) (Bb c.trust) (.bool c.frozen) (.slice (some ⟨w.heap.size+1+1,0,none⟩) k k)
   have a5:=QhZ (wr.setCell ⟨w.heap.size,3,none⟩ (.slice (some ⟨w.heap.size+1+1,0,none⟩) k k)) (w.heap.size+1) (.string c.chain) (Bb c.trust) (.bool c.frozen) (.slice (some ⟨w.heap.size+1+1,0,none⟩) k k);obtain ⟨ps,aO,aP⟩:=(S.out.keep (fun g hg=>(a5 g (by omega)).trans (Ci _ _ _ _ (by simp only;omega)))).all aC aK (show w.heap.size≤w.heap.size+1+1 by omega)
   have a6:ps.length=k:=by have:=Bl List.length aP;rw [Bp,aC] at this;exact this
   unfold set4 at u0 u1 u2 u3;refine BK (v:=.agg #[.string c.chain,Bb c.trust,.bool c.frozen,.slice (some ⟨w.heap.size+1+1,0,none⟩) k k]) (by simp [results,results67,go_sem,u0,u1,u2,u3]) rfl ⟨a4,some ⟨w.heap.size+1+1,0,none⟩,k,ps,?_⟩
   rw [a6];exact ⟨rfl,aO,aP⟩
def Qo1 (base:Nat) (c:Cl) (X:Value) (W:World):Prop:=∃ o m ps,X=.agg #[.string c.chain,Bb c.trust,.bool c.frozen,.slice o ps.length m]∧JK W base (.slice o ps.length m) ps∧ps.map (·.k)=c.known
theorem Qo1.stay (base:Nat) (c:Cl):Yr (Qo1 base c):=fun _ _ _ hb ⟨o,m,ps,e,h1,h2⟩=>⟨o,m,ps,e,h1.below hb,h2⟩
def YQ (w:World) (base:Nat) (v:Value) (l:List Kn):Prop:=∃ ps,JK w base v ps∧ps.map (·.k)=l
theorem YQ.nil (w:World) (base:Nat):YQ w base (Bc) []:=⟨[],⟨J0.nil w base,fun _ h=>by cases h⟩,rfl⟩
theorem YQ.knowns {base:Nat} {l:List Kn} (h:YQ w base v l):Jh w w.heap.size v l:=by
 obtain ⟨ps,h,rfl⟩:=h;exact h.knowns
theorem YQ.below {base:Nat} {l:List Kn} (h:YQ w base v l) (hg:Bd w w'):YQ w' base v l:=by
 obtain ⟨ps,h,e⟩:=h;exact ⟨ps,h.below hg,e⟩
theorem YQ.mono {base base':Nat} {l:List Kn} (h:YQ w base v l) (hb:base'≤base):YQ w base' v l:=by
 obtain ⟨ps,h,e⟩:=h;exact ⟨ps,h.mono hb,e⟩
theorem YQ.keep {base:Nat} {l:List Kn} (h:YQ w base v l) (hk:∀ g,base≤g→w'.heap[g]?=w.heap[g]?):YQ w' base v l:=by
 obtain ⟨ps,h,e⟩:=h;exact ⟨ps,h.keep hk,e⟩
def QvV (f:FuncId):Prop:=∀ (ch:ByteArray) (tr:Int) (k:Kn) (v:Value) (N:Nat) (w:World),KnV w N v k→N≤w.heap.size→ch.size≤140737488351232→k.fits →
 Calls prog f #[.string ch,Bb tr,v] w fun e w'=>Bd w w'∧∃ o n m,e=.returned (.tuple #[.agg #[.string (QhG ch tr k).chain,Bb (QhG ch tr k).trust,.bool (QhG ch tr k).frozen,.slice o n m],Bb (QA (YP ch tr k))])∧YQ w' w.heap.size (.slice o n m) (QhG ch tr k).known
theorem QuV: QvV 76:=by
 intro ch tr k v N w hv hN aM hf;obtain ⟨rv,nv,rfl,g1,g2⟩:=hv;obtain ⟨o1,c1,rfl,_⟩:=g1.shape;obtain ⟨o2,c2,rfl,_⟩:=g2.shape;obtain ⟨w0,A⟩:∃ w0,(w.alloc (.cells #[Bb k.height,Bb k.time,.slice o1 k.root.length c1,.slice o2 k.next.length c2] 31)).alloc (.cells #[.string ⟨#[]⟩,Bb 0,.bool false,Bc] 78)=w0:=⟨_,rfl⟩;have E:w0.heap.size=w.heap.size+1+1:=by rw [← A];simp
 have M:Bd w w0:=by rw [← A];exact ((Bi _ _).alloc (Bj _) _).alloc (by simp) _
 have aI:Row w0 w.heap.size 31 [Bb k.height,Bb k.time,.slice o1 k.root.length c1,.slice o2 k.next.length c2]:=by rw [← A];exact (Row.new _ _ _).alloc _
 have Y:Row w0 (w.heap.size+1) 78 [.string ⟨#[]⟩,Bb 0,.bool false,Bc]:=by
  rw [← A];have:=Row.new (w.alloc (.cells #[Bb k.height,Bb k.time,.slice o1 k.root.length c1,.slice o2 k.next.length c2] 31)) 78 [.string ⟨#[]⟩,Bb 0,.bool false,Bc];simp only [D6] at this;exact this
 obtain ⟨⟨y0,y1,y2,y3⟩,_⟩:=aI.four;have aE:=hid A;obtain ⟨w1,G⟩:∃ w1,(w0.alloc (.cells #[Bb k.height,Bb k.time,.slice o1 k.root.length c1,.slice o2 k.next.length c2] 31)).alloc (.cells #[.string ch,Bb tr,.bool false,.slice (some ⟨w.heap.size+1+1,0,none⟩) 1 1] 78)=w1:=⟨_,rfl⟩;have O:Bd w0 w1:=by rw [← G];exact ((Bi _ _).alloc (Bj _) _).alloc (by simp) _
 have b:Bd w w1:=M.trans (O.mono M.size);have aA:Row w1 (w.heap.size+1+1) 31 [Bb k.height,Bb k.time,.slice o1 k.root.length c1,.slice o2 k.next.length c2]:=by rw [← G];exact (Row.newAt _ _ _ _ E.symm).alloc _
 have aB:Row w1 (w.heap.size+1+1+1) 78 [.string ch,Bb tr,.bool false,.slice (some ⟨w.heap.size+1+1,0,none⟩) 1 1]:=by rw [← G];exact Row.newAt _ _ _ _ (by simp [E])
 have T:Jh w1 w1.heap.size (.slice (some ⟨w.heap.size+1+1,0,none⟩) 1 1) [k]:=⟨[⟨k,.slice o1 k.root.length c1,.slice o2 k.next.length c2⟩],rfl,(QvL aA).mono aA.lt,fun q hq=>by
  obtain rfl:q=⟨k,.slice o1 k.root.length c1,.slice o2 k.next.length c2⟩:=by simpa using hq
  exact ⟨(g1.below (b.mono hN)).mono (Bh hN b.size),(g2.below (b.mono hN)).mono (Bh hN b.size)⟩⟩
 have D:(YP ch tr k).fits:=⟨aM,by simp [YP],fun x hx=>by
  obtain rfl:x=k:=by simpa [YP] using hx
  exact hf⟩
 have aF:=QgZ (YP ch tr k) (.agg #[.string ch,Bb tr,.bool false,.slice (some ⟨w.heap.size+1+1,0,none⟩) 1 1]) w1.heap.size w1 ⟨_,rfl,T⟩ (Bj _) D;have aK:∀ wx,Bd w1 wx→_:=fun wx hx=>QaE (YP ch tr k) (.agg #[.string ch,Bb tr,.bool false,.slice (some ⟨w.heap.size+1+1,0,none⟩) 1 1]) w1.heap.size wx ⟨_,rfl,T.below hx⟩ hx.size D (by simp [YP])
 have I:=Y.below O Y.lt;obtain ⟨⟨b0,b1,b2,b3⟩,_⟩:=aB.four;clear A M O aI Y aA T D g1 g2 E
 by_cases hc:QA (YP ch tr k)=0
 ·have L:=hid (show QhG ch tr k=YP ch tr k by unfold QhG;rw [if_pos hc])
  go_in
  go_wp2_with fail
  rw [aE.out,G];refine aF.mono ?_;rintro e w2 ⟨rfl,d⟩;rw [hc];have C:=b.trans (d.mono b.size);have j:=hid (I.below d I.lt);obtain ⟨⟨d0,d1,d2,d3⟩,_⟩:=(aB.below d aB.lt).four
  go_wp2_with fail
  refine (aK _ d).mono ?_;rintro e w3 ⟨aG,o,m,ps,rfl,aH,aP⟩;have aJ:=hid (C.trans (aG.mono C.size));have aD:=j.out.below aG j.out.lt;have aL:=hid j.out.lt;generalize hpl:ps.length=n at *;obtain ⟨⟨x0,x1,x2,x3⟩,z0,z1,z2,z3⟩:=aD.four;go_wp2;have aC:=Qc7 aD (.string (YP ch tr k).chain) (Bb (YP ch tr k).trust) (.bool (YP ch tr k).frozen) (.slice o n m);obtain ⟨⟨u0,u1,u2,u3⟩,_⟩:=aC.four;have S:=ZZ aJ.out (show w.heap.size≤w.heap.size+1 by omega) (.string (YP ch tr k).chain) (Bb (YP ch tr k).trust) (.bool (YP ch tr k).frozen) (.slice o n m)
  have aO:=QhZ w3 (w.heap.size+1) (.string (YP ch tr k).chain) (Bb (YP ch tr k).trust) (.bool (YP ch tr k).frozen) (.slice o n m);have aN:=(aH.keep (fun g hg=>aO g (by have:=aL.out;omega))).mono C.size
  unfold set4 at u0 u1 u2 u3;refine BK (v:=.tuple #[.agg #[.string (YP ch tr k).chain,Bb (YP ch tr k).trust,.bool (YP ch tr k).frozen,.slice o n m],Bb 0]) (by simp [results,results76,go_sem,u0,u1,u2,u3]) rfl ⟨S,o,n,m,?_⟩
  rw [L.out,hc];exact ⟨rfl,_,aN,aP⟩
 ·have L:=hid (show QhG ch tr k=Cl.none by unfold QhG;rw [if_neg hc])
  have e1:(QA (YP ch tr k) != 0)=true:=by simpa using hc
  generalize QA (YP ch tr k)=z at *
  go_in
  go_wp2_with fail
  rw [aE.out,G];refine aF.mono ?_;rintro e w2 ⟨rfl,d⟩;have C:=b.trans (d.mono b.size);have j:=hid (I.below d I.lt);obtain ⟨⟨x0,x1,x2,x3⟩,z0,z1,z2,z3⟩:=j.out.four;go_wp2;have aC:=Qc7 j.out (.string ⟨#[]⟩) (Bb 0) (.bool false) (Bc);obtain ⟨⟨u0,u1,u2,u3⟩,_⟩:=aC.four;have S:=ZZ C (show w.heap.size≤w.heap.size+1 by omega) (.string ⟨#[]⟩) (Bb 0) (.bool false) (Bc)
  unfold set4 at u0 u1 u2 u3;refine BK (v:=.tuple #[.agg #[.string ⟨#[]⟩,Bb 0,.bool false,Bc],Bb z]) (by simp [results,results76,go_sem,u0,u1,u2,u3]) rfl ⟨S,none,0,0,?_⟩
  rw [L.out];exact ⟨rfl,YQ.nil _ _⟩
end Go.Proofs.YtnedafiokmjkkaaGreatDoor
