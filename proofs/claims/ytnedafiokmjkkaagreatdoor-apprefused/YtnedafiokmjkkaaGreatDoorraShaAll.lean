/- What the digest's small functions answer. -/
import Derived.Test.YtnedafiokmjkkaaGreatDoorraMemB
import Derived.BigRegion
import Derived.BigQuiet
import Derived.Deep.DeepCutAuto
namespace Go.Proofs.YtnedafiokmjkkaaGreatDoor
open Tryz
set_option maxRecDepth 1000000
set_option maxHeartbeats 8000000
open Go.RowKit
attribute [local go_sem] Qgm QmF Qoe Qtg Qii QfO Qdf
variable {P:Program} {o:Oper} {a:Act} {w w':World} {Q:Exit→Act→World→Prop} {B N n:Nat} {v:Value} {xs:List Value}
theorem QsQ (x:BitVec 32) (n:Nat) (hn:n<32) (h0:0<n) (w:World) :
  Calls prog 275 #[.int .u32 (u x),Bb (-(n:Int))] w fun e w'=>e=.returned (.int .u32 (u (QdB x n)))∧w'=w:=by
 have hb:=QsP n h0 hn
 go_in
 go_wp2;go_ret;refine ⟨?_,rfl⟩
 show Ending.returned (Value.int IntKind.u32 (bits BinOp.or IntKind.u32 (u x*2 ^ (32-n) % 4294967296) (u x / 2 ^ (32-(32-n)))))=_
 rw [QoX,QjU,Qoe,show 32-(32-n)=n by omega];rfl
theorem YF (x:BitVec 32) (n:Nat) (hn:n<32) (h0:0<n) (w:World) :
  Calls prog 259 #[.int .u32 (u x),Bb (n:Int)] w fun e w'=>e=.returned (.int .u32 (u (QdB x n)))∧w'=w:=by
 go_in
 go_wp2_with (go_at_call 275;refine (QsQ x n hn h0 _).mono ?_;rintro e w' ⟨rfl,rfl⟩)
 go_ret;exact ⟨rfl,rfl⟩
theorem Qm6 (x y z:BitVec 32) (w:World) :
  Calls prog 235 #[.int .u32 (u x),.int .u32 (u y),.int .u32 (u z)] w fun e w'=>e=.returned (.int .u32 (u (chs x y z)))∧w'=w:=by
 go_in
 go_wp2;go_ret;exact ⟨rfl,rfl⟩
theorem Qt3 (x y z:BitVec 32) (w:World) :
  Calls prog 237 #[.int .u32 (u x),.int .u32 (u y),.int .u32 (u z)] w fun e w'=>e=.returned (.int .u32 (u (maj x y z)))∧w'=w:=by
 go_in
 go_wp2;go_ret;exact ⟨rfl,rfl⟩
theorem QtG (x:BitVec 32) (w:World) :
  Calls prog 234 #[.int .u32 (u x)] w fun e w'=>e=.returned (.int .u32 (u (bS1 x)))∧w'=w:=by
 go_in
 go_wp2_with fail
 refine (YF x 6 (by omega) (by omega) _).mono ?_;rintro e w' ⟨rfl,rfl⟩
 go_wp2_with fail
 refine (YF x 11 (by omega) (by omega) _).mono ?_;rintro e w' ⟨rfl,rfl⟩
 go_wp2_with fail
 refine (YF x 25 (by omega) (by omega) _).mono ?_;rintro e w' ⟨rfl,rfl⟩
 go_wp2;go_ret;exact ⟨rfl,rfl⟩
theorem QtF (x:BitVec 32) (w:World) :
  Calls prog 236 #[.int .u32 (u x)] w fun e w'=>e=.returned (.int .u32 (u (bS0 x)))∧w'=w:=by
 go_in
 go_wp2_with fail
 refine (YF x 2 (by omega) (by omega) _).mono ?_;rintro e w' ⟨rfl,rfl⟩
 go_wp2_with fail
 refine (YF x 13 (by omega) (by omega) _).mono ?_;rintro e w' ⟨rfl,rfl⟩
 go_wp2_with fail
 refine (YF x 22 (by omega) (by omega) _).mono ?_;rintro e w' ⟨rfl,rfl⟩
 go_wp2;go_ret;exact ⟨rfl,rfl⟩
theorem Quk (x:BitVec 32) (w:World) :
  Calls prog 257 #[.int .u32 (u x)] w fun e w'=>e=.returned (.int .u32 (u (sS1 x)))∧w'=w:=by
 go_in
 go_wp2_with fail
 refine (YF x 17 (by omega) (by omega) _).mono ?_;rintro e w' ⟨rfl,rfl⟩
 go_wp2_with fail
 refine (YF x 19 (by omega) (by omega) _).mono ?_;rintro e w' ⟨rfl,rfl⟩
 go_wp2;go_ret;refine ⟨?_,rfl⟩
 show Ending.returned (Value.int .u32 (bits .xor .u32 (u (QdB x 17 ^^^ QdB x 19)) (u x / 1024)))=_
 rw [QoY,Qgm];rfl
theorem Quj (x:BitVec 32) (w:World) :
  Calls prog 258 #[.int .u32 (u x)] w fun e w'=>e=.returned (.int .u32 (u (sS0 x)))∧w'=w:=by
 go_in
 go_wp2_with fail
 refine (YF x 7 (by omega) (by omega) _).mono ?_;rintro e w' ⟨rfl,rfl⟩
 go_wp2_with fail
 refine (YF x 18 (by omega) (by omega) _).mono ?_;rintro e w' ⟨rfl,rfl⟩
 go_wp2;go_ret;refine ⟨?_,rfl⟩
 show Ending.returned (Value.int .u32 (bits .xor .u32 (u (QdB x 7 ^^^ QdB x 18)) (u x / 8)))=_
 rw [Qth,Qgm];rfl
attribute [local go_sem] Qgm QmF Qoe Qtg Qii QfO Qdf Quz Quy Qvk Qo5
theorem Qic (b:Bg) (k N:Nat) (w wr:World) (x:BitVec 32) (hx:x=QmI b k (wTo b k)) (hk:k<64)
  (h0:Row wr N 295 (ZY 64 [])) (h1:Row wr (N+1) 295 (ZY 64 (wTo b k))) (hb:Below N w wr) :
  Row (wr.setCell ⟨N+1,k,none⟩ (.int .u32 (u x))).drew N 295 (ZY 64 [])∧Row (wr.setCell ⟨N+1,k,none⟩ (.int .u32 (u x))).drew (N+1) 295 (ZY 64 (wTo b (k+1))) ∧
   Below N w (wr.setCell ⟨N+1,k,none⟩ (.int .u32 (u x))).drew:=by
 refine ⟨(h0.other _ (by simp)).drew,?_,(hb.setCell (by simp) _).drew⟩
 have h:=h1.set k (U x);have e:=QsR 64 (wTo b k) x (by rw [YX];omega)
 rw [YX] at e;rw [e] at h;unfold wTo;rw [← hx];exact h.drew
theorem Qn6 (d:Bg) (b j L:Nat) (w:World)
  (hc:∀ i,i<64→w.cell? ⟨b,j+i,none⟩=some (.int .u8 (b8 (d.getD i 0)))) :
  Calls prog 233 #[.slice (some ⟨b,j,none⟩) 64 L] w fun e w'=>e=.returned (.agg ((wTo d 64).map U).toArray)∧Bd w w':=by
 go_in
 go_wp2
 go_loopw [7] (fun i wr=>∃ k:Nat,k≤16∧i=Bb k∧Row wr w.heap.size 295 (ZY 64 [])∧Row wr (w.heap.size+1) 295 (ZY 64 (wTo d k))∧Bd w wr)
  (fun i _=>16-(intOf i).toNat)
 case atStart =>
  refine ⟨0,by omega,rfl,?_,?_,?_⟩
  ·exact (Row.new w 295 (ZY 64 [])).alloc _
  ·exact Row.newAt _ 295 (ZY 64 []) _ (by simp)
  ·exact ((Bi _ _).alloc (Bj _) _).alloc (by simp) _
 case round =>
  obtain ⟨k,hk,rfl,h0,h1,hb⟩:=hrel;have m:b<w.heap.size:=CF (hc 0 (by omega))
  by_cases C:k<16
  ·have c0:wr.cell? ⟨b,j+4*k,none⟩=some (.int .u8 (b8 (d.getD (4*k) 0))):=(hb.cell m).trans (hc (4*k) (by omega))
   have c1:wr.cell? ⟨b,j+(4*k+1),none⟩=some (.int .u8 (b8 (d.getD (4*k+1) 0))):=(hb.cell m).trans (hc (4*k+1) (by omega))
   have c2:wr.cell? ⟨b,j+(4*k+2),none⟩=some (.int .u8 (b8 (d.getD (4*k+2) 0))):=(hb.cell m).trans (hc (4*k+2) (by omega))
   have c3:wr.cell? ⟨b,j+(4*k+3),none⟩=some (.int .u8 (b8 (d.getD (4*k+3) 0))):=(hb.cell m).trans (hc (4*k+3) (by omega))
   obtain ⟨v,hv⟩:∃ v,wr.cell? ⟨w.heap.size+1,k,none⟩=some v:=by rw [h1.cell];exact QjM _ _ _ (by rw [YX];omega) (by omega)
   have hf:wr.frozen? ⟨w.heap.size+1,k,none⟩=false:=h1.frozen k;have e1:(4*(k:Int)+1).toNat=4*k+1:=by omega
   have e2:(4*(k:Int)+2).toNat=4*k+2:=by omega
   have e3:(4*(k:Int)+3).toNat=4*k+3:=by omega
   have e0:(4*(k:Int)).toNat=4*k:=by omega
   have hlt':(k:Int)<16:=by omega
   have H0:Hid _:=h0;have H1:Hid _:=h1;have HB:Hid _:=hb;clear h0 h1 hb hc;go_wp2
   go_region
   go_wp2;go_roundw
   case rel =>
    exact ⟨k+1,by omega,by go_num,Qic d k _ w wr _ (by unfold QmI;rw [if_pos C];rfl) (by omega) H0.out H1.out HB.out⟩
   case measure=>simp [intOf];omega
  ·have E:k=16:=by omega
   subst E;clear hc;have H0:Hid _:=h0;have H1:Hid _:=h1;have HB:Hid _:=hb;clear h0 h1 hb;go_wp2
   go_loopw [6] (fun i wr=>∃ k:Nat,16≤k∧k≤64∧i=Bb k∧Row wr w.heap.size 295 (ZY 64 [])∧Row wr (w.heap.size+1) 295 (ZY 64 (wTo d k))∧Bd w wr)
    (fun i _=>64-(intOf i).toNat)
   case atStart=>exact ⟨16,by omega,by omega,rfl,H0.out,H1.out,HB.out⟩
   case round =>
    clear H0 H1 HB;rename_i wr2;obtain ⟨k,hk0,hk,rfl,h0,h1,hb⟩:=hrel
    by_cases C:k<64
    ·have hl:=YX d k
     have e2:((k:Int)-2).toNat=k-2:=by omega
     have e7:((k:Int)-7).toNat=k-7:=by omega
     have e15:((k:Int)-15).toNat=k-15:=by omega
     have e16:((k:Int)-16).toNat=k-16:=by omega
     have hlt':(k:Int)<64:=by omega
     have c2:wr.cell? ⟨w.heap.size+1,k-2,none⟩=some (.int .u32 (u ((wTo d k).getD (k-2) 0))):=(h1.cell _).trans (Qfb _ _ _ (by omega))
     have c7:wr.cell? ⟨w.heap.size+1,k-7,none⟩=some (.int .u32 (u ((wTo d k).getD (k-7) 0))):=(h1.cell _).trans (Qfb _ _ _ (by omega))
     have c15:wr.cell? ⟨w.heap.size+1,k-15,none⟩=some (.int .u32 (u ((wTo d k).getD (k-15) 0))):=(h1.cell _).trans (Qfb _ _ _ (by omega))
     have c16:wr.cell? ⟨w.heap.size+1,k-16,none⟩=some (.int .u32 (u ((wTo d k).getD (k-16) 0))):=(h1.cell _).trans (Qfb _ _ _ (by omega))
     obtain ⟨v,hv⟩:∃ v,wr.cell? ⟨w.heap.size+1,k,none⟩=some v:=by rw [h1.cell];exact QjM _ _ _ (by omega) (by omega)
     have hf:wr.frozen? ⟨w.heap.size+1,k,none⟩=false:=h1.frozen k;have H0:Hid _:=h0;have H1:Hid _:=h1;have HB:Hid _:=hb
     have HX:Hid (sS1 ((wTo d k).getD (k-2) 0)+(wTo d k).getD (k-7) 0+sS0 ((wTo d k).getD (k-15) 0)+(wTo d k).getD (k-16) 0=QmI d k (wTo d k)):=by
      show _=_;unfold QmI;rw [if_neg (by omega)]
     clear h0 h1 hb hl;generalize (wTo d k).getD (k-2) 0=x2 at *;generalize (wTo d k).getD (k-7) 0=x7 at *;generalize (wTo d k).getD (k-15) 0=x15 at *;generalize (wTo d k).getD (k-16) 0=x16 at *;have g2:((k:Int)<2)=False:=eq_false (by omega)
     have g7:((k:Int)<7)=False:=eq_false (by omega)
     have g15:((k:Int)<15)=False:=eq_false (by omega)
     have g16:((k:Int)<16)=False:=eq_false (by omega)
     have r2:IntKind.i64.wrap ((k:Int)-2)=(k:Int)-2:=by simp [IntKind.wrap,IntKind.bits,IntKind.signed];split <;> omega
     have d2:¬ k-2=k:=by omega
     have z2:(0:Int)≤(k:Int)-2:=by omega
     have i2:(2:Int)≤(k:Int):=by omega
     have l2:(k:Int)-2<64:=by omega
     have r7:IntKind.i64.wrap ((k:Int)-7)=(k:Int)-7:=by simp [IntKind.wrap,IntKind.bits,IntKind.signed];split <;> omega
     have d7:¬ k-7=k:=by omega
     have z7:(0:Int)≤(k:Int)-7:=by omega
     have i7:(7:Int)≤(k:Int):=by omega
     have l7:(k:Int)-7<64:=by omega
     have r15:IntKind.i64.wrap ((k:Int)-15)=(k:Int)-15:=by simp [IntKind.wrap,IntKind.bits,IntKind.signed];split <;> omega
     have d15:¬ k-15=k:=by omega
     have z15:(0:Int)≤(k:Int)-15:=by omega
     have i15:(15:Int)≤(k:Int):=by omega
     have l15:(k:Int)-15<64:=by omega
     have r16:IntKind.i64.wrap ((k:Int)-16)=(k:Int)-16:=by simp [IntKind.wrap,IntKind.bits,IntKind.signed];split <;> omega
     have d16:¬ k-16=k:=by omega
     have z16:(0:Int)≤(k:Int)-16:=by omega
     have i16:(16:Int)≤(k:Int):=by omega
     have l16:(k:Int)-16<64:=by omega
     go_wp2_with fail
     refine YU 22 (by kernel_rfl) (by kernel_rfl) ?_
     simp only [Dq,CL,BU,BS]
     repeat still_step
     still_call (Quk _ _)
     repeat still_step
     still_call (Quj _ _)
     repeat still_step
     refine Cd ?_;go_wp2;go_roundw
     case rel =>
      (repeat apply Exists.intro)
      exact ⟨⟨k+1,by omega,by omega,by go_num,Qic d k _ w wr _ HX.out C H0.out H1.out HB.out⟩,rfl⟩
     case measure=>simp [intOf];omega
    ·have G:k=64:=by omega
     subst G;have q:((wTo d 64).map U).toArray.size=64:=by simp [YX]
     have A:ZY 64 (wTo d 64)=(wTo d 64).map U:=by
      have:=QqB (wTo d 64);rwa [YX] at this
     rw [A] at h1;have I:((wTo d 64).map U).toArray.all (·.oneCell')=true:=by simp [U]
     unfold Row at h0 h1;have z:(ZY 64 []).toArray.size=((wTo d 64).map U).toArray.size:=by rw [q];rfl
     generalize (ZY 64 []).toArray=zs at *;have H0:Hid _:=h0;have H1:Hid _:=h1;have HB:Hid _:=hb;have HO:Hid _:=z;clear h0 h1 hb z;have hi:(prog.info? 295).map (·.size)=some ((wTo d 64).map U).toArray.size:=by rw [q];kernel_rfl
     generalize D:((wTo d 64).map U).toArray=cs at *;have HC:Hid _:=D;clear D;have HS:Hid _:=q;have HI:Hid _:=hi;clear q hi A
     go_wp2_with (first
      | (refine wpList_load_row rfl 295 _ rfl (w.heap.size+1) rfl 295 cs (0,0) _ H1.out underlying295 rfl HI.out ?_)
      | (refine Dc rfl 295 _ _ rfl w.heap.size cs rfl rfl 295 zs H0.out HI.out HO.out I ?_))
     have M:=Cm wr w.heap.size zs cs 295 (0,0) H0.out;refine BF (v:=.agg cs) (results_cell_row results233 _ _ w.heap.size 295 cs (0,0) (.array 64 226) ?_ M underlying295 rfl HI.out) rfl ⟨by rw [HC.out],?_⟩
     ·rfl
     ·exact HB.out.trans ⟨rfl,rfl,rfl,by simp,fun k hk=>BV _ _ _ _ (by omega)⟩
attribute [local go_sem] Qgm QmF Qoe Qtg Qii QfO Qdf
def QhS (s r:Oct) (k:Nat):List (BitVec 32):=(s.plus r).list.take k ++ s.list.drop k
theorem Qsu (s r:Oct) (tl:List Value):∀ k,k<8→((QhS s r k).map U ++ tl)[k]?=some (.int .u32 (u (s.list.getD k 0)))
 | 0,_=>rfl | 1,_=>rfl | 2,_=>rfl | 3,_=>rfl | 4,_=>rfl | 5,_=>rfl | 6,_=>rfl | 7,_=>rfl
theorem Qsv (s r:Oct) (tl:List Value):∀ k,k<8→((QhS s r k).map U ++ tl).set k (U (s.list.getD k 0+r.list.getD k 0))=(QhS s r (k+1)).map U ++ tl
 | 0,_=>rfl | 1,_=>rfl | 2,_=>rfl | 3,_=>rfl | 4,_=>rfl | 5,_=>rfl | 6,_=>rfl | 7,_=>rfl
theorem QjF (r:Oct):∀ (k:Nat),k<8→∀ w,(Instr.index 227 (.agg #[.int .u32 (u r.a),.int .u32 (u r.b),.int .u32 (u r.c),.int .u32 (u r.d),.int .u32 (u r.e),.int .u32 (u r.f),.int .u32 (u r.g),.int .u32 (u r.h)]) (Bb (k:Int))).run prog w=.ok (.int .u32 (u (r.list.getD k 0))) w
 | 0,_=>fun _=>by kernel_rfl | 1,_=>fun _=>by kernel_rfl | 2,_=>fun _=>by kernel_rfl | 3,_=>fun _=>by kernel_rfl
 | 4,_=>fun _=>by kernel_rfl | 5,_=>fun _=>by kernel_rfl | 6,_=>fun _=>by kernel_rfl | 7,_=>fun _=>by kernel_rfl
theorem QoN (s:Oct) (tl:List Value) (m:Bg) (b aD aG B:Nat) (w:World)
  (hB:Row w B 230 (s.list.map U ++ tl)) (hB0:B≠1)
  (hK:∀ t,t<64→w.cell? ⟨1,t,none⟩=some (.int .u32 (u (QpQ.getD t 0))))
  (hc:∀ i,i<64→w.cell? ⟨b,aD+i,none⟩=some (.int .u8 (b8 (m.getD i 0)))) :
  Calls prog 203 #[.pointer (some ⟨B,0,none⟩),.slice (some ⟨b,aD,none⟩) 64 aG] w fun e w' =>
   e=.returned (.tuple #[])∧w.grownBy w' (some B)∧Row w' B 230 ((ZP s m).list.map U ++ tl):=by
 have HB:=hid hB;have HK:=hid hK;have HC:=hid hc;clear hB hK hc
 go_in
 go_wp2_with fail
 refine (Qn6 m b aD aG _ HC.out).mono ?_;rintro e w1 ⟨rfl,aH⟩;have aC:((wTo m 64).map U).toArray.size=64:=by simp [YX]
 have aL:((wTo m 64).map U).toArray.all (·.oneCell')=true:=by simp [U]
 have hi:(prog.info? 295).map (·.size)=some ((wTo m 64).map U).toArray.size:=by rw [aC];kernel_rfl
 have aJ:((wTo m 64).map U).toArray=((wTo m 64).map U).toArray:=rfl;generalize aI:((wTo m 64).map U).toArray=cs at *;have O:=hid aH;have HS:=hid aC;have HI:=hid hi;have aO:=hid aI;clear aC hi aI aJ aH
 go_wp2_with (refine Dc rfl 295 _ _ rfl w1.heap.size cs rfl rfl 295 (ZY 64 []).toArray (BT _ _) HI.out (by rw [HS.out];rfl) aL ?_)
 have aB:Row w1 B 230 (s.list.map U ++ tl):=HB.out.below O.out HB.out.lt;have hlt1:B<w1.heap.size:=aB.lt;obtain ⟨w2,E⟩:∃ w2,World.setRow (w1.alloc (.cells (ZY 64 []).toArray 295)) w1.heap.size cs=w2:=⟨_,rfl⟩
 change Code.wp _ _ _ _ (World.setRow (w1.alloc (.cells (ZY 64 []).toArray 295)) w1.heap.size cs)
 rw [E]
 have q:Row w2 B 230 (s.list.map U ++ tl):=by
  rw [← E];unfold Row;rw [BV _ _ _ _ (by omega)];exact aB.alloc _
 have Y:w.grownBy w2 (some B):=by
  refine Qo (QcX O.out) ?_;rw [← E];exact ⟨rfl,rfl,rfl,by simp,fun k hk _=>by rw [BV _ _ _ _ (by omega)];exact Below.heap_alloc _ _ _ hk⟩
 have M:w2.heap[w1.heap.size]?=some (.cells cs 295 (0,0)):=by
  rw [← E];exact Cm _ _ (ZY 64 []).toArray _ _ _ (BT _ _)
 have hlt2:B<w2.heap.size:=q.lt;have c0:w2.cell? ⟨B,0,none⟩=some (.int .u32 (u s.a)):=q.cell 0;have c1:w2.cell? ⟨B,1,none⟩=some (.int .u32 (u s.b)):=q.cell 1;have c2:w2.cell? ⟨B,2,none⟩=some (.int .u32 (u s.c)):=q.cell 2;have c3:w2.cell? ⟨B,3,none⟩=some (.int .u32 (u s.d)):=q.cell 3;have c4:w2.cell? ⟨B,4,none⟩=some (.int .u32 (u s.e)):=q.cell 4;have c5:w2.cell? ⟨B,5,none⟩=some (.int .u32 (u s.f)):=q.cell 5;have c6:w2.cell? ⟨B,6,none⟩=some (.int .u32 (u s.g)):=q.cell 6;have c7:w2.cell? ⟨B,7,none⟩=some (.int .u32 (u s.h)):=q.cell 7;clear E;have aR:=hid q;have aP:=hid Y;have aS:=hid M;generalize aN:w1.heap.size=G at *
 have aE:Hid (∀ t,t<64→w2.cell? ⟨1,t,none⟩=some (.int .u32 (u (QpQ.getD t 0)))):=by
  intro t ht;have h0:=HK.out t ht;have:(1:Nat)<w.heap.size:=CF h0;rw [← h0];exact D9 (Y.block 1 this (by simp;omega))
 clear q Y M aB HB HK HC;clear aN O
 go_quiet (fail)
 go_wp2_with fail
 go_quiet (fail)
 go_wp2_with fail
 have HW:Hid (∀ t,t<64→w2.cell? ⟨G,t,none⟩=some (.int .u32 (u ((wTo m 64).getD t 0)))):=by
  intro t ht;have hx:=CD w2 G t cs 295 (0,0) aS.out;rw [hx,← aO.out];have hl:t<(wTo m 64).length:=by rw [YX];exact ht
  simp [hl,U]
 clear c0 c1 c2 c3 c4 c5 c6 c7
 go_loopw [5,6,7,8,9,10,11,12,60] (fun va vb vc vd ve vf vg vh i wr=>∃ (t n:Nat) (r:Oct),t≤64∧i=Bb t∧Hid (r=rTo (wTo m 64) s t) ∧
   va=.int .u32 (u r.a)∧vb=.int .u32 (u r.b)∧vc=.int .u32 (u r.c)∧vd=.int .u32 (u r.d)∧ve=.int .u32 (u r.e)∧vf=.int .u32 (u r.f)∧vg=.int .u32 (u r.g)∧vh=.int .u32 (u r.h)∧wr=w2.drewN n)
  (fun _ _ _ _ _ _ _ _ i _=>64-(intOf i).toNat)
 case atStart=>exact ⟨0,_,s,by omega,rfl,rfl,rfl,rfl,rfl,rfl,rfl,rfl,rfl,rfl,by simp;rfl⟩
 case round =>
  obtain ⟨t,n,r,ht,rfl,HR,rfl,rfl,rfl,rfl,rfl,rfl,rfl,rfl,rfl⟩:=hrel
  by_cases aK:t<64
  ·have hk:=aE.out t aK
   have aX:=HW.out t aK;have hlt':(t:Int)<64:=by omega
   obtain ⟨kt,aA⟩:∃ kt,QpQ.getD t 0=kt:=⟨_,rfl⟩;obtain ⟨wt,I⟩:∃ wt,(wTo m 64).getD t 0=wt:=⟨_,rfl⟩;rw [aA] at hk;rw [I] at aX;have aQ:=hid aA;have aT:=hid I;clear aA I
   go_wp2_with fail
   refine JE (by kernel_rfl) (by kernel_rfl) ?_
   repeat still_step
   still_call (QtG _ _)
   repeat still_step
   still_call (Qm6 _ _ _ _)
   repeat still_step
   refine Cd ?_
   go_wp2_with (first | (go_at_call 236;refine (QtF _ _).mono ?_;rintro e w' ⟨rfl,rfl⟩) | (go_at_call 237;refine (Qt3 _ _ _ _).mono ?_;rintro e w' ⟨rfl,rfl⟩))
   go_roundw
   case rel =>
    exact ⟨t+1,n+1,step kt wt r,by omega,by go_num,(by show _=_;rw [HR.out,← aQ.out,← aT.out];rfl),rfl,rfl,rfl,rfl,rfl,rfl,rfl,rfl,rfl⟩
   case measure=>simp [intOf];omega
  ·have aM:t=64:=by omega
   subst aM;clear aE HW
   go_wp2_with fail
   go_loopw [109] (fun i wr=>∃ k:Nat,k≤8∧i=Bb k∧Row wr B 230 ((QhS s r k).map U ++ tl)∧w2.grownBy wr (some B)) (fun i _=>8-(intOf i).toNat)
   case atStart=>exact ⟨0,by omega,rfl,aR.out,⟨rfl,rfl,rfl,Bj _,fun _ _ _=>rfl⟩⟩
   case round =>
    obtain ⟨k,hk,rfl,z,L⟩:=hrel
    by_cases D:k<8
    ·have aU:=QjF r k D
     have hlt':(k:Int)<8:=by omega
     have T:wr.cell? ⟨B,k,none⟩=some (.int .u32 (u (s.list.getD k 0))):=(z.cell k).trans (Qsu s r tl k D);have hfz:wr.frozen? ⟨B,k,none⟩=false:=z.frozen k;have A:=Qsv s r tl k D;obtain ⟨x,hx⟩:∃ x,s.list.getD k 0=x:=⟨_,rfl⟩;obtain ⟨y,hy⟩:∃ y,r.list.getD k 0=y:=⟨_,rfl⟩;rw [hx] at T A;rw [hy] at aU A;have C:=hid z;have S:=hid L;have aF:=hid A;clear z L A hx hy
     go_wp2_with fail
     refine YU 11 (by kernel_rfl) (by kernel_rfl) ?_
     simp only [Dq,CL,BU,BS]
     repeat still_step
     refine Cd ?_;go_wp2;go_roundw
     case rel =>
      (repeat apply Exists.intro)
      refine ⟨⟨k+1,by omega,by go_num,?_,?_⟩,rfl⟩
      ·have h:=C.out.set k (U (x+y))
       rw [aF.out] at h;exact h.drew
      ·exact Qo S.out ⟨rfl,rfl,rfl,by simp [World.setCell,World.drew],fun j _ aW=>Cq _ _ _ _ (fun e=>aW (by rw [e]))⟩
     case measure=>simp [intOf];omega
    ·have aV:k=8:=by omega
     subst aV;have C:=hid z;have S:=hid L;clear z L;go_wp2
     go_end0
     refine ⟨rfl,Qo aP.out S.out,?_⟩;have he:ZP s m=s.plus r:=by rw [HR.out];rfl
     rw [he];have h8:QhS s r 8=(s.plus r).list:=rfl;rw [← h8];exact C.out
def dig (s:Oct) (R:Bg) (h z:Nat):List Value:=s.list.map U ++ (R.map V ++ [Bb (h:Int),.int .u64 (z:Int)])
theorem Qhi (s:Oct) (R:Bg) (h z:Nat):(dig s R h z).length=10+R.length:=by
 simp [dig,Oct.list];omega
theorem Yk (s:Oct):(s.list.map U).length=8:=rfl
theorem Qne (s:Oct) (R:Bg) (h z i:Nat) (hi:i<R.length):(dig s R h z)[8+i]?=some (.int .u8 (b8 (R.getD i 0))):=by
 unfold dig;rw [CY (by rw [Yk];omega),Yk,show 8+i-8=i by omega,Cw (by simpa using hi),Bt,getD_some R i 0 hi]
 rfl
theorem QaV (s:Oct) (R:Bg) (h z:Nat) (hR:R.length=64):(dig s R h z)[72]?=some (Bb (h:Int)):=by
 unfold dig;rw [CY (by rw [Yk];omega),Yk,CY (by simp [hR])]
 simp [hR]
theorem Qlx (s:Oct) (R:Bg) (h z:Nat) (hR:R.length=64):(dig s R h z)[73]?=some (.int .u64 (z:Int)):=by
 unfold dig;rw [CY (by rw [Yk];omega),Yk,CY (by simp [hR])]
 simp [hR]
theorem QoC (s:Oct) (R:Bg) (h z i:Nat) (hi:i<R.length) (x:BitVec 8):(dig s R h z).set (8+i) (V x)=dig s (R.set i x) h z:=by
 unfold dig;rw [Dd _ _ (by rw [Yk];omega),Yk,show 8+i-8=i by omega,List.set_append_left _ _ (by simpa using hi),De]
theorem Qf0 (s:Oct) (R:Bg) (h z h':Nat) (hR:R.length=64):(dig s R h z).set 72 (Bb (h':Int))=dig s R h' z:=by
 unfold dig;rw [Dd _ _ (by rw [Yk];omega),Yk,Dd _ _ (by simp [hR])]
 simp [hR]
theorem Qlw (s:Oct) (R:Bg) (h z z':Nat) (hR:R.length=64):(dig s R h z).set 73 (.int .u64 (z':Int))=dig s R h z':=by
 unfold dig;rw [Dd _ _ (by rw [Yk];omega),Yk,Dd _ _ (by simp [hR])]
 simp [hR]
theorem Qhj (s:Oct) (R l:Bg) (h z i:Nat) (hi:i+l.length≤R.length) :
  (dig s R h z).take (8+i) ++ l.map V ++ (dig s R h z).drop (8+i+l.length)=dig s (R.take i ++ l ++ R.drop (i+l.length)) h z:=by
 unfold dig
 have e1:(s.list.map U ++ (R.map V ++ [Value.int .i64 (h:Int),.int .u64 (z:Int)])).take (8+i)=s.list.map U ++ (R.take i).map V:=by
  rw [DV,Yk,show 8+i-8=i by omega,Bw (by rw [Yk];omega),DD (by simp;omega),List.map_take]
 have e2:(s.list.map U ++ (R.map V ++ [Value.int .i64 (h:Int),.int .u64 (z:Int)])).drop (8+i+l.length)=(R.drop (i+l.length)).map V ++ [Value.int .i64 (h:Int),.int .u64 (z:Int)]:=by
  rw [DX,Yk,show 8+i+l.length-8=i+l.length by omega,Em (by rw [Yk];omega),DY (by simpa using hi),List.map_drop]
  rfl
 rw [e1,e2];simp
theorem Qk2 (n:Nat):IntKind.u8.wrap (n:Int)=b8 (BitVec.ofNat 8 n):=by
 unfold b8;rw [DF];simp
def Qdc (R:Bg) (n m:Nat):Bg:=R.take (56+m) ++ (be8 n).drop m
theorem QiQ (R:Bg) (n m:Nat) (hR:R.length=64) (hm:m≤8):(Qdc R n m).length=64:=by
 simp [Qdc,be8,hR];omega
theorem QuZ (n:Nat):∀ m,m<8→(be8 n)[m]?=some (BitVec.ofNat 8 (n / 2 ^ (8*(7-m))))
 | 0,_=>rfl | 1,_=>rfl | 2,_=>rfl | 3,_=>rfl | 4,_=>rfl | 5,_=>rfl | 6,_=>rfl | 7,_=>by simp [be8]
theorem Qn5 (R:Bg) (n m:Nat) (hR:R.length=64) (hm:m<8) :
  (Qdc R n (m+1)).set (m+56) (BitVec.ofNat 8 (n / 2 ^ (8*(7-m))))=Qdc R n m:=by
 unfold Qdc
 have e1:R.take (56+(m+1))=R.take (56+m) ++ [R.getD (56+m) 0]:=by
  rw [← Da,Cx (by omega)]
  congr 2
  simp [show 56+m<R.length by omega]
 have e2:(be8 n).drop m=BitVec.ofNat 8 (n / 2 ^ (8*(7-m))) :: (be8 n).drop (m+1):=by
  have hl:m<(be8 n).length:=by simp [be8];omega
  rw [Cs hl]
  congr 1
  have:=QuZ n m hm;rw [Bk hl] at this;exact Bu this
 have hl:(R.take (56+m)).length=m+56:=by simp;omega
 rw [e1,e2,Ck,Dd _ _ (by omega),hl]
 simp
theorem Qmt (R:Bg) (n:Nat) (hR:R.length=64):Qdc R n 8=R:=by
 simp [Qdc,be8,List.take_of_length_le,hR]
theorem Qme (s:Oct) (R:Bg) (h z B:Nat) (hR:R.length=64) (hz:z<2305843009213693952) (w:World) (hB:Row w B 230 (dig s R h z)) :
  Calls prog 204 #[.pointer (some ⟨B,0,none⟩)] w fun e w' =>
   e=.returned (.tuple #[])∧w.grownBy w' (some B)∧Row w' B 230 (dig s (R.take 56 ++ be8 (8*z)) h z):=by
 have cz:w.cell? ⟨B,73,none⟩=some (.int .u64 (z:Int)):=(hB.cell 73).trans (Qlx s R h z hR);have hz':(z:Int)<2305843009213693952:=by omega
 have D:(0:Int)≤(z:Int):=by omega
 have C:IntKind.u64.wrap ((z:Int)*8)=((8*z:Nat):Int):=by
  simp [IntKind.wrap,IntKind.bits,IntKind.signed];omega
 have HR:=hid hR;have HB:=hid hB;clear hB hR hz hz' D
 go_in
 go_wp2_with fail
 go_loopw [2,3] (fun v i wr=>∃ m bc:Nat,m≤8∧i=Bb ((m:Int)+55)∧v=.int .u64 (bc:Int)∧Hid (bc=8*z / 2 ^ (8*(8-m)))∧Row wr B 230 (dig s (Qdc R (8*z) m) h z)∧w.grownBy wr (some B))
  (fun _ i _=>(intOf i).toNat)
 case atStart =>
  refine ⟨8,8*z,by omega,by go_num,by go_num,by show _=_;simp,?_,⟨rfl,rfl,rfl,Bj _,fun _ _ _=>rfl⟩⟩
  rw [Qmt _ _ HR.out];exact HB.out
 case round =>
  clear cz C;obtain ⟨m,bc,hm,rfl,rfl,HC,b,j⟩:=hrel
  cases m with
  | zero =>
   have d:=hid b;have q:=hid j;clear b j;go_wp2
   go_end0
   refine ⟨rfl,q.out,?_⟩;exact d.out
  | succ m =>
   have hl:=QiQ R (8*z) (m+1) HR.out hm;have hfz:wr.frozen? ⟨B,8+(m+56),none⟩=false:=b.frozen _;obtain ⟨v0,hv0⟩:∃ v0,wr.cell? ⟨B,8+(m+56),none⟩=some v0:=⟨_,(b.cell _).trans (Qne _ _ _ _ _ (by omega))⟩
   have e1:(((m+1:Nat):Int)+55).toNat=m+56:=by omega
   have e2:((m:Int)+1+55).toNat=m+56:=by omega
   have hb:IntKind.u8.wrap (bc:Int)=b8 (BitVec.ofNat 8 bc):=Qk2 bc;have hb':(bc:Int) % 256=b8 (BitVec.ofNat 8 bc):=by rw [← hb,DF]
   have hm':(m:Int)<8:=by omega
   have HL:=hid hl;have d:=hid b;have q:=hid j;clear b j hl;go_wp2;go_roundw
   case rel =>
    have A:bc=8*z / 2 ^ (8*(7-m)):=by rw [HC.out];congr 3;omega
    refine ⟨m,bc / 256,by omega,by congr 1;omega,by congr 1,?_,?_,?_⟩
    ·show _=_
     rw [A,Nat.div_div_eq_div_mul,show (256:Nat)=2 ^ 8 from rfl,← Nat.pow_add,show 8*(7-m)+8=8*(8-m) by omega]
    ·have hs:=d.out.set (8+(m+56)) (V (BitVec.ofNat 8 bc))
     rw [QoC _ _ _ _ _ (by rw [HL.out];omega),A,Qn5 _ _ _ HR.out (by omega)] at hs
     rw [A];exact hs
    ·exact Qo q.out (YD _ _ _ _)
   case measure=>simp [intOf];omega
theorem Qte (x:BitVec 32):IntKind.u8.wrap (u x / (16777216:Int))=b8 ((x >>> 24).setWidth 8):=by
 have h:u x / (16777216:Int)=u (x >>> 24):=QjU x 24;rw [h,DF];unfold u b8;simp
theorem Qtd (x:BitVec 32):IntKind.u8.wrap (u x / (65536:Int))=b8 ((x >>> 16).setWidth 8):=by
 have h:u x / (65536:Int)=u (x >>> 16):=QjU x 16;rw [h,DF];unfold u b8;simp
theorem Qux (x:BitVec 32):IntKind.u8.wrap (u x / (256:Int))=b8 ((x >>> 8).setWidth 8):=by
 have h:u x / (256:Int)=u (x >>> 8):=QjU x 8;rw [h,DF];unfold u b8;simp
theorem Quw (x:BitVec 32):IntKind.u8.wrap (u x)=b8 (x.setWidth 8):=by
 rw [DF];unfold u b8;simp
def Qj7 (s:Oct) (k:Nat):Bg:=(s.list.take k).flatMap YG
theorem Qj8 (s:Oct):∀ k,k<8→Qj7 s (k+1)=Qj7 s k ++ YG (s.list.getD k 0)
 | 0,_=>rfl | 1,_=>rfl | 2,_=>rfl | 3,_=>rfl | 4,_=>rfl | 5,_=>rfl | 6,_=>rfl | 7,_=>rfl
attribute [local go_sem] Qte Qtd Qux Quw
theorem Qpk (s:Oct) (tl:List Value) (B:Nat) (w:World) (hB:Row w B 230 (s.list.map U ++ tl)) :
  Calls prog 205 #[.pointer (some ⟨B,0,none⟩)] w fun e w' =>
   ∃ v,e=.returned v∧w'.ownsRow w.heap.size 5 1 v 32 ((s.list.flatMap YG).map V)∧Bd w w':=by
 obtain ⟨i0,E,O,S,T⟩:=Ci Qdt;have L:∀ w:World,(Instr.makeSlice 29 (Bb 0) (Bb 32)).run prog w=.ok (.slice (some ⟨w.heap.size,0,none⟩) 0 32) (w.alloc (.cells (List.replicate 32 (Value.int .u8 0)).toArray 5)):=fun _=>by kernel_rfl
 have hlt:B<w.heap.size:=hB.lt;have c0:w.cell? ⟨B,0,none⟩=some (.int .u32 (u s.a)):=hB.cell 0;have c1:w.cell? ⟨B,1,none⟩=some (.int .u32 (u s.b)):=hB.cell 1;have c2:w.cell? ⟨B,2,none⟩=some (.int .u32 (u s.c)):=hB.cell 2;have c3:w.cell? ⟨B,3,none⟩=some (.int .u32 (u s.d)):=hB.cell 3;have c4:w.cell? ⟨B,4,none⟩=some (.int .u32 (u s.e)):=hB.cell 4;have c5:w.cell? ⟨B,5,none⟩=some (.int .u32 (u s.f)):=hB.cell 5;have c6:w.cell? ⟨B,6,none⟩=some (.int .u32 (u s.g)):=hB.cell 6;have c7:w.cell? ⟨B,7,none⟩=some (.int .u32 (u s.h)):=hB.cell 7;clear hB
 go_in
 go_wp2_with fail
 clear c0 c1 c2 c3 c4 c5 c6 c7 L
 go_loopw [3,11] (fun v i wr=>∃ k:Nat,k≤8∧i=Bb k∧wr.ownsRow w.heap.size 5 1 v (4*k) ((Qj7 s k).map V)∧Bd w wr) (fun _ i _=>8-(intOf i).toNat)
 case atStart =>
  exact ⟨0,by omega,rfl,World.ownsRow_made w (List.replicate 32 (Value.int .u8 0)).toArray 32 (Bj _) (by decide) (by simp),(Bi _ _).alloc (Bj _) _⟩
 case round =>
  obtain ⟨k,hk,rfl,q,z⟩:=hrel
  by_cases A:k<8
  ·have G:=QjF s k A
   have hlt':(k:Int)<8:=by omega
   have m:=Qj8 s k A;obtain ⟨x,hx⟩:∃ x,s.list.getD k 0=x:=⟨_,rfl⟩;rw [hx] at G m;have HS:=hid m;have HO:=hid q;have HB:=hid z;have M:=z.size;clear m hx q z
   go_wp2_with (at_builtin;refine Ea _ rfl (.tmp 14) (.tmp 26) 29 rfl w.heap.size 5 i0 (.int .u8 0) 1 1 underlying29 E O S T rfl (by decide) _ _ _ rfl (HO.out.alloc _) ⟨wr.heap.size,0,none⟩ 4 4 ((YG x).map V) rfl rfl (Qi9 _ _ _) (by simp [YG,V]) (by unfold maxLen;omega) (by omega) (by simp;omega) ?_;intro v' w1 D C hnil)
   go_roundw
   case rel =>
    refine ⟨k+1,by omega,by go_num,?_,?_⟩
    ·rw [HS.out,Cc];exact D
    ·exact (HB.out.alloc M _).grown C (by simp;omega) (fun j hj=>(HO.out.lt j hj).1)
   case measure=>simp [intOf];omega
  ·have I:k=8:=by omega
   subst I;have HO:=hid q;have HB:=hid z;clear q z;go_wp2;go_ret;exact ⟨_,rfl,HO.out,HB.out⟩
def Qgs:List Value:=dig QeO (List.replicate 64 0) 0 0
def Qkq:List Value:=List.replicate 8 (.int .u32 0) ++ List.replicate 64 (.int .u8 0) ++ [Bb 0,.int .u64 0]
theorem Qis (w:World):(zeroValue 230).run prog w=.ok (.agg Qkq.toArray) w:=by kernel_rfl
theorem QlJ: (prog.info? 230).map (·.size)=some 74:=by kernel_rfl
theorem Qjf: Qgs.toArray.size=74:=by kernel_rfl
theorem Qi3 (w:World):Calls prog 165 #[] w fun e w'=>e=.returned (.agg Qgs.toArray)∧Bd w w':=by
 go_in
 have hzv:∀ w:World,(zeroValue 230).run prog w=.ok (.agg #[(.int .u32 0),(.int .u32 0),(.int .u32 0),(.int .u32 0),(.int .u32 0),(.int .u32 0),(.int .u32 0),(.int .u32 0),(.int .u8 0),(.int .u8 0),(.int .u8 0),(.int .u8 0),(.int .u8 0),(.int .u8 0),(.int .u8 0),(.int .u8 0),(.int .u8 0),(.int .u8 0),(.int .u8 0),(.int .u8 0),(.int .u8 0),(.int .u8 0),(.int .u8 0),(.int .u8 0),(.int .u8 0),(.int .u8 0),(.int .u8 0),(.int .u8 0),(.int .u8 0),(.int .u8 0),(.int .u8 0),(.int .u8 0),(.int .u8 0),(.int .u8 0),(.int .u8 0),(.int .u8 0),(.int .u8 0),(.int .u8 0),(.int .u8 0),(.int .u8 0),(.int .u8 0),(.int .u8 0),(.int .u8 0),(.int .u8 0),(.int .u8 0),(.int .u8 0),(.int .u8 0),(.int .u8 0),(.int .u8 0),(.int .u8 0),(.int .u8 0),(.int .u8 0),(.int .u8 0),(.int .u8 0),(.int .u8 0),(.int .u8 0),(.int .u8 0),(.int .u8 0),(.int .u8 0),(.int .u8 0),(.int .u8 0),(.int .u8 0),(.int .u8 0),(.int .u8 0),(.int .u8 0),(.int .u8 0),(.int .u8 0),(.int .u8 0),(.int .u8 0),(.int .u8 0),(.int .u8 0),(.int .u8 0),(Bb 0),(.int .u64 0)]) w:=Qis
 go_wp2_with (refine Dc rfl 230 (.tmp 0) (.tmp 2) rfl w.heap.size _ rfl rfl 230 _ (BT _ _) (by kernel_rfl) (by kernel_rfl) (by kernel_rfl) ?_)
 refine BF (v:=.agg Qgs.toArray) (results_cell_row results165 _ _ w.heap.size 230 Qgs.toArray (0,0) _ ?_ (Cm _ _ Qkq.toArray _ _ _ (BT _ _)) underlying230 rfl (by rw [Qjf];exact QlJ)) rfl ⟨rfl,?_⟩
 ·rfl
 ·exact ((Bi _ _).alloc (Bj _) _).trans ⟨rfl,rfl,rfl,by simp,fun k hk=>BV _ _ _ _ (by omega)⟩
theorem Qgn {b:Array Oper} {rest:List Oper} (d:o.guard=none) (s x:Operand) (t t':TypeId)
  (ho:o.op=.call { callee:=.builtin .copy,args:=#[s,x],argTypes:=#[t,t'] }) (dv sv v:Value) (hs:a.eval s=dv) (hx:a.eval x=sv)
  (hr:(Builtin.copy_ #[t,t'] o.type #[dv,sv]).run P w=.ok v w') (h:wpList P b Q rest (a.put o.dst v) w'):wpList P b Q (o :: rest) a w :=
 CW d fun K hK=>by
  unfold Oper.wp execOp;simp only [ho,resolve,invoke,builtin,Cz,CG,CH,DW,CI,DB,hs,hx,hr];exact hK _ _ h
theorem Qfq {b:Array Oper} {rest:List Oper} (d:o.guard=none) (s:Operand) (t:TypeId)
  (ho:o.op=.call { callee:=.builtin .clear,args:=#[s],argTypes:=#[t] }) (dv v:Value) (hs:a.eval s=dv)
  (hr:(Builtin.clear_ #[t] o.type #[dv]).run P w=.ok v w') (h:wpList P b Q rest (a.put o.dst v) w'):wpList P b Q (o :: rest) a w :=
 CW d fun K hK=>by
  unfold Oper.wp execOp;simp only [ho,resolve,invoke,builtin,Cz,CG,CH,DW,CI,DB,hs,hr];exact hK _ _ h
theorem QeN (w:World) (g:Nat) (cs:Array Value):w.grownBy (w.setRow g cs) (some g) :=
 ⟨rfl,rfl,rfl,by simp,fun j _ b=>BV _ _ _ _ (fun e=>b (by rw [e]))⟩
theorem Qjb (s:Oct) (R l:Bg) (h z i c N B:Nat) (ty:TypeId) (sv:Value) (w:World) (hB:Row w B 230 (dig s R h z)) (hR:R.length=64) (hi:i≤64) (hb:Bytes w N sv l) :
  ∃ w',(Builtin.copy_ #[29,29] ty #[.slice (some ⟨B,8+i,none⟩) (64-i) c,sv]).run prog w=.ok (goInt ((min l.length (64-i):Nat):Int)) w'∧w.grownBy w' (some B) ∧
   Row w' B 230 (dig s (R.take i ++ l.take (64-i) ++ R.drop (i+min l.length (64-i))) h z):=by
 have key:∀ (a:Addr) (d:Nat),sv=.slice (some a) l.length d→(∀ j v,((l.take (64-i)).map V)[j]?=some v→w.cell? (a.add j)=some v) →
   ∃ w',(Builtin.copy_ #[29,29] ty #[.slice (some ⟨B,8+i,none⟩) (64-i) c,sv]).run prog w=.ok (goInt ((min l.length (64-i):Nat):Int)) w'∧w.grownBy w' (some B) ∧
    Row w' B 230 (dig s (R.take i ++ l.take (64-i) ++ R.drop (i+min l.length (64-i))) h z):=by
  rintro a d rfl I;have m:((l.take (64-i)).map V).length=Nat.min l.length (64-i):=by simp;exact Nat.min_comm _ _
  have M:(dig s R h z).toArray.size=74:=by simp [Qhi,hR]
  have hr:=run_copy_row prog w 29 29 ty 5 B (8+i) (64-i) c a l.length d (dig s R h z).toArray 230 ((l.take (64-i)).map V)
   underlying29 (by kernel_rfl) hB m I
   (by rw [M,m];have:Nat.min l.length (64-i)≤64-i:=Nat.min_le_right _ _;omega) (fun v hv=>by obtain ⟨x,_,rfl⟩:=BD.1 hv;rfl)
  refine ⟨_,by rw [hr,m],QeN _ _ _,?_⟩
  unfold Row;rw [Cm w B _ _ 230 _ hB];have E:(l.take (64-i)).length=min l.length (64-i):=by simp;exact Nat.min_comm _ _
  have G:=Qhj s R (l.take (64-i)) h z i (by rw [E,hR];omega)
  rw [E] at G;have e:l.length.min (64-i)=min l.length (64-i):=rfl;rw [e];exact Bl (fun x:List Value=>some (Obj.cells x.toArray 230 (0,0))) G
 rcases hb with ⟨rfl,rfl⟩ | ⟨a,d,rfl,rfl⟩ | ⟨b,A,d,rfl,hc,q⟩
 ·refine ⟨w,?_,YQ _ _,?_⟩
  ·rw [run_copy_nil prog w 29 29 ty 5 _ _ _ underlying29 (by kernel_rfl)]
   simp
  ·simpa using hB
 ·exact key a d rfl (fun j v hv=>by simp at hv)
 ·refine key ⟨b,A,none⟩ d rfl (fun j v hv=>?_)
  have C:(⟨b,A,none⟩:Addr).add j=⟨b,A+j,none⟩:=by unfold Addr.add;split <;> simp_all
  have D:j<(l.take (64-i)).length:=by
   have:=(Bm.1 hv).1;simpa using this
  have hj:j<l.length:=by simp at D;omega
  have L:j<64-i:=by simp at D;omega
  rw [C,(q j hj).2,← hv];simp [L,V,hj]
theorem Qg6 (s:Oct) (R:Bg) (h z i c B:Nat) (w:World) (hB:Row w B 230 (dig s R h z)) (hR:R.length=64) (hi:i<64) :
  ∃ w',(∀ ty,(Builtin.clear_ #[29] ty #[.slice (some ⟨B,8+i,none⟩) (64-i) c]).run prog w=.ok (.tuple #[]) w')∧w.grownBy w' (some B) ∧
   Row w' B 230 (dig s (R.take i ++ List.replicate (64-i) 0) h z):=by
 have q:(dig s R h z).toArray.size=74:=by simp [Qhi,hR]
 have b:=run_storeCells_at prog B (8+i) 230 ((List.replicate (64-i) (0:BitVec 8)).map V) 0 (dig s R h z).toArray w hB (by rw [q];simp;omega) (fun v hv=>by obtain ⟨x,_,rfl⟩:=BD.1 hv;rfl)
 have A:(zeroValue 5).run prog w=.ok (.int .u8 0) w:=by kernel_rfl
 have hV:V (0:BitVec 8)=Value.int .u8 0:=rfl
 have d:(Builtin.zeroCells #[Value.int .u8 0] (64-i)).toList=(List.replicate (64-i) (0:BitVec 8)).map V:=by
  rw [List.map_replicate,hV];simp [Builtin.zeroCells];apply List.ext_getElem
  ·simp
  ·intro i h1 h2
   simp [Nat.mod_one]
 simp only [BI] at b;refine ⟨w.setRow B (List.take (8+i) (dig s R h z) ++ (List.replicate (64-i) (0:BitVec 8)).map V ++ List.drop (8+i+(List.replicate (64-i) (0:BitVec 8)).length) (dig s R h z)).toArray,fun ty=>?_,QeN w B _,?_⟩
 ·rw [← d] at b
  have e:(List.replicate (64-i) (0:BitVec 8)).length=(Builtin.zeroCells #[Value.int .u8 0] (64-i)).toList.length:=by rw [d];simp
  rw [e,← d];obtain ⟨m,hm⟩:∃ m,64-i=m+1:=⟨63-i,by omega⟩
  rw [hm] at b ⊢;simp only [Builtin.clear_,List.getElem?_toArray,En,Cz,Dp underlying29,CH,A,Value.cells,b,CG]
 ·unfold Row
  rw [Cm w B _ _ 230 _ hB];have j:=Qhj s R (List.replicate (64-i) (0:BitVec 8)) h z i (by simp;omega)
  rw [j]
  have hd:R.drop (i+(List.replicate (64-i) (0:BitVec 8)).length)=[]:=by
   apply CK;simp;omega
  rw [hd,CZ]
theorem Qal (j:Nat):∀ (s:Oct) (m:Bg),Yf (j+1) s m=ZP (Yf j s m) ((m.drop (64*j)).take 64):=by
 induction j with
 | zero=>intro s m;simp [Yf]
 | succ j ih =>
  intro s m;have h:=ih (ZP s (m.take 64)) (m.drop 64);rw [DZ] at h;rw [show 64*(j+1)=64+64*j by omega]
  exact h
theorem Z5 (j:Nat):∀ (s:Oct) (m l:Bg),64*j≤m.length→Yf j s (m ++ l)=Yf j s m:=by
 induction j with
 | zero=>intro s m l _;rfl
 | succ j ih =>
  intro s m l h
  show Yf j (ZP s ((m ++ l).take 64)) ((m ++ l).drop 64)=Yf j (ZP s (m.take 64)) (m.drop 64)
  rw [DD (by omega),DY (by omega)]
  exact ih _ _ _ (by simp;omega)
def Abs (m R:Bg):Prop:=R.length=64∧R.take (m.length % 64)=m.drop (64*(m.length / 64))
def QcV (m R:Bg):List Value:=dig (Yf (m.length / 64) QeO m) R (m.length % 64) m.length
theorem Qo9 (m l R:Bg) (h:Abs m R) (hs:m.length % 64+l.length<64) :
  Abs (m ++ l) (R.take (m.length % 64) ++ l.take (64-m.length % 64) ++ R.drop (m.length % 64+min l.length (64-m.length % 64))) ∧
  (m ++ l).length / 64=m.length / 64∧(m ++ l).length % 64=m.length % 64+l.length∧Yf ((m ++ l).length / 64) QeO (m ++ l)=Yf (m.length / 64) QeO m:=by
 have hq:(m ++ l).length / 64=m.length / 64:=by simp;omega
 have hr:(m ++ l).length % 64=m.length % 64+l.length:=by simp;omega
 refine ⟨⟨by simp [h.1];omega,?_⟩,hq,hr,?_⟩
 ·rw [hq,hr,h.2,DY (by omega),Bw (l:=l) (by omega)]
  apply List.take_left';simp;omega
 ·rw [hq];exact Z5 _ _ _ _ (by omega)
theorem Qq1 (m l R:Bg) (h:Abs m R) (hs:64≤m.length % 64+l.length) :
  R.take (m.length % 64) ++ l.take (64-m.length % 64) ++ R.drop (m.length % 64+min l.length (64-m.length % 64))=((m ++ l).drop (64*(m.length / 64))).take 64 ∧
  l.drop (64-m.length % 64)=(m ++ l).drop (64*(m.length / 64+1)):=by
 have hd:R.drop (m.length % 64+min l.length (64-m.length % 64))=[]:=by
  apply CK;rw [h.1];omega
 constructor
 ·rw [hd,CZ,h.2,DY (by omega),DV,Bw (l:=m.drop _) (by simp;omega)]
  congr 2
  simp;omega
 ·rw [DX,Em (l:=m) (by omega),Bv]
  congr 1
  omega
theorem Qtx (m R:Bg) (j:Nat) (hR:R.length=64) (hj:64*j≤m.length) (hl:(m.drop (64*j)).length<64) :
  Abs m (R.take 0 ++ (m.drop (64*j)).take (64-0) ++ R.drop (0+min (m.drop (64*j)).length (64-0)))∧m.length / 64=j∧m.length % 64=(m.drop (64*j)).length:=by
 simp at hl;have hq:m.length / 64=j:=by omega
 have hr:m.length % 64=(m.drop (64*j)).length:=by simp;omega
 refine ⟨⟨by simp [hR];omega,?_⟩,hq,hr⟩
 rw [hq,hr,CL,Bv,Bw (l:=m.drop _) (by simp;omega)]
 exact List.take_left' rfl
theorem QdS (m:Bg):Yf (m.length / 64) QeO (Qek m)=Yf (m.length / 64) QeO m:=by
 unfold Qek;rw [Ck,Ck];exact Z5 _ _ _ _ (by omega)
theorem Qgb (m:Bg):(Qek m).drop (64*(m.length / 64))=m.drop (64*(m.length / 64)) ++ ([128] ++ List.replicate (QjZ m.length) 0 ++ be8 (8*m.length)):=by
 unfold Qek;rw [Ck,Ck,DY (by omega),Ck]
def ZW (m R:Bg):Bg:=R.take (m.length % 64) ++ [128] ++ List.replicate (63-m.length % 64) 0
theorem QdR (m R:Bg) (h:R.length=64):(ZW m R).length=64:=by
 simp [ZW,h];omega
theorem QhK (m R:Bg) (h:R.length=64):(R.set (m.length % 64) 128).take (m.length % 64+1) ++ List.replicate (64-(m.length % 64+1)) 0=ZW m R:=by
 have hl:m.length % 64<R.length:=by omega
 have e:(R.set (m.length % 64) 128).take (m.length % 64+1)=R.take (m.length % 64) ++ [128]:=by
  rw [Cx (by simpa using hl)]
  have e0:List.take (m.length % 64) (R.set (m.length % 64) 128)=List.take (m.length % 64) R:=by
   apply CP;intro j;simp only [BE]
   split
   ·rw [BZ (by omega)]
   ·rfl
  rw [e0];simp
 rw [e];unfold ZW;rw [show 64-(m.length % 64+1)=63-m.length % 64 by omega]
theorem QlW (m R:Bg) (h:R.length=64) (b:m.length % 64=63):R.set (m.length % 64) 128=ZW m R:=by
 rw [← QhK m R h,b];simp [List.take_of_length_le,h]
theorem QqG (m R:Bg) (hA:Abs m R) (hs:m.length % 64<56):sha m=(ZP (Yf (m.length / 64) QeO m) ((ZW m R).take 56 ++ be8 (8*m.length))).list.flatMap YG:=by
 unfold sha;rw [show (m.length+72) / 64=m.length / 64+1 by omega,Qal,QdS,Qgb]
 have hz:QjZ m.length=55-m.length % 64:=by unfold QjZ;omega
 unfold ZW;rw [hA.2,hz];have hd:(m.drop (64*(m.length / 64))).length=m.length % 64:=by simp;omega
 have e:(m.drop (64*(m.length / 64)) ++ [128] ++ List.replicate (63-m.length % 64) (0:BitVec 8)).take 56=m.drop (64*(m.length / 64)) ++ [128] ++ List.replicate (55-m.length % 64) 0:=by
  rw [DV,Bw (by simp;omega),List.take_replicate]
  congr 2
  simp [hd];omega
 have e5:(m.drop (64*(m.length / 64)) ++ ([128] ++ List.replicate (55-m.length % 64) 0 ++ be8 (8*m.length))).take 64=m.drop (64*(m.length / 64)) ++ [128] ++ List.replicate (55-m.length % 64) 0 ++ be8 (8*m.length):=by
  rw [Bw (by simp [be8];omega)]
  simp
 rw [e,e5]
theorem QsX (m R:Bg) (hA:Abs m R) (hs:56≤m.length % 64) :
  sha m=(ZP (ZP (Yf (m.length / 64) QeO m) (ZW m R)) ((List.replicate 64 (0:BitVec 8)).take 56 ++ be8 (8*m.length))).list.flatMap YG:=by
 unfold sha;rw [show (m.length+72) / 64=m.length / 64+1+1 by omega,Qal,Qal,QdS]
 have hz:QjZ m.length=(63-m.length % 64)+56:=by unfold QjZ;omega
 have hd:(m.drop (64*(m.length / 64))).length=m.length % 64:=by simp;omega
 have e1:(Qek m).drop (64*(m.length / 64))=ZW m R ++ (List.replicate 56 0 ++ be8 (8*m.length)):=by
  rw [Qgb,hz];unfold ZW;rw [hA.2,← List.replicate_append_replicate];simp
 have b:=QdR m R hA.1
 have e2:(Qek m).drop (64*(m.length / 64+1))=List.replicate 56 0 ++ be8 (8*m.length):=by
  rw [show 64*(m.length / 64+1)=64*(m.length / 64)+64 by omega,← DZ,e1]
  exact List.drop_left' b
 have e3:(ZW m R ++ (List.replicate 56 0 ++ be8 (8*m.length))).take 64=ZW m R:=by
  rw [DD (by omega),Bw (by omega)]
 have e4:(List.replicate 56 0 ++ be8 (8*m.length)).take 64=(List.replicate 64 (0:BitVec 8)).take 56 ++ be8 (8*m.length):=by
  rw [Bw (by simp [be8]),List.take_replicate]
  rfl
 rw [e1,e2,e3,e4]
def Qi (w:World):Prop:=∀ t,t<64→w.cell? ⟨1,t,none⟩=Option.some (.int .u32 (u (QpQ.getD t 0)))
theorem Qi.grown (h:Qi w) (hg:w.grownBy w' (Option.some B)) (hB:B≠1):Qi w':=by
 intro t ht;have h0:=h t ht;have:(1:Nat)<w.heap.size:=CF h0;rw [← h0];exact D9 (hg.block 1 this (by simp;omega))
theorem Qh9 (B hd:Nat) (h:hd<64) (w:World):(Instr.sliceAt 228 (.pointer (Option.some ⟨B,8,none⟩)) (Option.some (Bb (hd:Int))) none none).run prog w=.ok (.slice (Option.some ⟨B,8+hd,none⟩) (64-hd) (64-hd)) w:=by
 have hl:prog.arrayLen 228=64:=by kernel_rfl
 have hs:(sizeOf (prog.elem 228)).run prog w=.ok 1 w:=by kernel_rfl
 have b:¬ 64=hd:=by omega
 rw [run_sliceAt_array_l w 228 ⟨B,8,none⟩ (by kernel_rfl) .i64 hd (by omega) (by rw [hl];omega),hs,hl]
 simp [slicedAt,b,Addr.add]
theorem QkC {s:Oct} {R:Bg} {h z:Nat} (hr:Row w B 230 (dig s R h z)) (hR:R.length=64) (b:B≠1) (hK:Qi w) :
  Calls prog 203 #[.pointer (some ⟨B,0,none⟩),.slice (some ⟨B,8,none⟩) 64 64] w fun e w'=>e=.returned (.tuple #[])∧w.grownBy w' (some B)∧Row w' B 230 (dig (ZP s R) R h z) :=
 QoN s _ R B 8 64 B w hr b hK fun i hi=>(hr.cell (8+i)).trans (Qne _ _ _ _ _ (by omega))
def QuF (m l:Bg) (N B:Nat) (w:World) (v:Value) (wr:World):Prop :=
 ∃ (j h:Nat) (R:Bg),64*j≤(m ++ l).length∧R.length=64∧Row wr B 230 (dig (Yf j QeO (m ++ l)) R h (m ++ l).length)∧Bytes wr N v ((m ++ l).drop (64*j))∧w.grownBy wr (some B)
theorem QmC (m l R:Bg) (sv:Value) (N B:Nat) (w:World) (hA:Abs m R) (hB:Row w B 230 (QcV m R)) (hN:N≤B) (T:B≠1)
  (hb:Bytes w N sv l) (hK:Qi w) (aD:m.length+l.length<2305843009213693952) :
  Calls prog 166 #[.pointer (some ⟨B,0,none⟩),sv] w fun e w' =>
   e=.returned (.tuple #[])∧w.grownBy w' (some B)∧∃ R',Abs (m ++ l) R'∧Row w' B 230 (QcV (m ++ l) R'):=by
 obtain ⟨oa,a9,rfl,hcap⟩:=hb.shape;have HR:=hid hA.1;have HA:=hid hA;have aM:=hid hb;have HK:=hid hK;have aT:=CQ m.length (show 0<64 by omega)
 have aO:=hid aD;have ag:IntKind.u64.wrap (l.length:Int)=(l.length:Int):=w64 _ (by omega)
 have ah:IntKind.u64.wrap ((m.length:Int)+(l.length:Int))=((m.length+l.length:Nat):Int):=Z6 _ _ (by omega)
 unfold QcV at hB;have HB:=hid hB;have aS:=hB.lt;have cz:w.cell? ⟨B,73,none⟩=some (.int .u64 (m.length:Int)):=(hB.cell 73).trans (Qlx _ _ _ _ hA.1);have fz:=hB.frozen 73;clear hA hb hK hB aD
 go_in
 go_upto_region 1 with fail
 generalize aK:w.setCell _ _=w1
 have aA:Row w1 B 230 (dig (Yf (m.length / 64) QeO m) R (m.length % 64) (m.length+l.length)):=by
  rw [← aK,← Qlw _ _ _ _ _ HR.out];exact HB.out.set 73 _
 have aI:w.grownBy w1 (some B):=aK ▸ YD _ _ _ _;have ch:=(aA.cell 72).trans (QaV _ _ _ _ HR.out);have aC:=aM.out.grown aI hN (Bh hN (Nat.le_of_lt aS));have I:=hid (show (m ++ l).length=m.length+l.length from Bs);have aP:=hid aA.lt;have z:=hid aC;have aF:=hid aA;have E:=hid aI;have S:=hid (Qo9 m l R HA.out);have F:=hid (Qq1 m l R HA.out);have C:=hid (show m.length % 64+64*(m.length / 64)=m.length by omega)
 clear aA aI aC cz fz aK HB ag ah;generalize m.length % 64=hd at *
 go_upto_if 19 with fail
 go_cut [1] (QuF m l N B w)
 case first =>
  by_cases hh:0<hd
  ·have hh':(0:Int)<(hd:Int):=by omega
   go_upto_region 2 with fail
   have af:=Qh9 B hd aT;refine YU 9 (by kernel_rfl) (by kernel_rfl) ?_
   simp only [Dq,CL,BU,BS]
   repeat still_step
   refine Cd ?_;obtain ⟨w2,b,aU,D⟩:=Qjb _ R l hd _ hd (64-hd) N B 3 (.slice oa l.length a9) w1.drew aF.out HR.out (by omega) z.out
   refine Qgn rfl (.tmp 27) (.tmp 28) 29 29 rfl _ _ _ rfl rfl b ?_;obtain ⟨nn,Y⟩:∃ nn,min l.length (64-hd)=nn:=⟨_,rfl⟩;rw [Y] at D ⊢;generalize aH:R.take hd ++ _ ++ _=R2 at D;have q:R2.length=64:=by have:=HR.out;rw [← aH];simp;omega
   have aa:=(D.cell 72).trans (QaV _ _ _ _ q);have f2:=D.frozen 72;have ac:nn≤l.length:=by omega
   have hn64:nn≤64-hd:=by omega
   rw [Y,aH] at S F;obtain ⟨v1,hsl1,d⟩:=Qcl (z.out) .i64 nn ac;have HV:=hid d;have aQ:=hid Y;clear Y aH af d
   go_upto_region 5 with fail
   generalize aL:w2.setCell _ _=w3
   have aJ:Row w3 B 230 (dig (Yf (m.length / 64) QeO m) R2 (hd+nn) (m.length+l.length)):=by
    rw [← aL,← Qf0 _ _ _ _ _ q];exact D.set 72 _
   have aV:w1.grownBy w3 (some B):=aL ▸ Qo (ZV (YQ _ _)) (Qo aU (YD _ _ _ _));have ch3:=(aJ.cell 72).trans (QaV _ _ _ _ q);have aG:=hid aJ;have O:=hid aV;have aB:=hid q;clear aU D q aJ aV aL ch aa f2
   by_cases hs:hd+l.length<64
   ·obtain rfl:nn=l.length:=by have:=aQ.out;omega
    have a3:(hd:Int)+(l.length:Int)<64:=by omega
    go_wp2_with fail
    obtain ⟨q1,q2,q3,q4⟩:=S.out hs;refine BF (v:=.tuple #[]) (by simp [results,results166,go_sem]) rfl ⟨rfl,Qo E.out O.out,R2,q1,?_⟩
    unfold QcV;rw [q4,q3,I.out];exact aG.out
   ·obtain rfl:nn=64-hd:=by have:=aQ.out;omega
    have a3:(hd:Int)+((64-hd:Nat):Int)=64:=by omega
    have ab:hd+(64-hd)=64:=by omega
    rw [ab] at aG;obtain ⟨q1,q2⟩:=F.out (by omega)
    have G:=hid (QkC aG.out aB.out T (HK.out.grown (Qo E.out O.out) T))
    go_wp2_with fail
    refine G.out.mono ?_;rintro e w4 ⟨rfl,aW,ad⟩
    go_wp2_with fail
    go_meet
    refine ⟨m.length / 64+1,64,R2,by rw [I.out];have:=C.out;omega,aB.out,?_,?_,Qo (Qo E.out O.out) aW⟩
    ·rw [I.out,Qal,← q1,Z5 _ _ _ _ (by have:=C.out;omega)]
     exact ad
    ·rw [← q2]
     exact HV.out.grown (Qo O.out aW) hN (by have:=aP.out;omega)
  ·obtain rfl:hd=0:=by omega
   go_wp2_with fail
   go_meet
   refine ⟨m.length / 64,0,R,by rw [I.out];have:=C.out;omega,HR.out,?_,?_,E.out⟩
   ·rw [I.out,Z5 _ _ _ _ (by have:=C.out;omega)]
    exact aF.out
   ·have:=C.out
    rw [DX,Em (l:=m) (by omega),Bv,show 64*(m.length / 64)-m.length=0 by omega]
    exact z.out
 case rest =>
  have HJ:=hid hcut;clear hcut S F aF E z aM HR HA C ch aP
  go_wp2_with fail
  go_loopw [1] (QuF m l N B w) (fun v _=>lenOf v)
  case atStart=>exact HJ.out
  case round =>
   clear HJ;obtain ⟨j,h,R,hj,hR,hr,d,hg⟩:=hrel;obtain ⟨o2,c2,rfl,hc2⟩:=d.shape;have hB2:=hr.lt;have hl2:((m ++ l).drop (64*j)).length<2305843009213693952:=by have:=aO.out;simp;omega
   by_cases aR:64≤((m ++ l).drop (64*j)).length
   ·have hv:=Qbw d 64 _ aR (Bj _)
    rw [Bw (Ds Df),DZ,show 64*j+64=64*(j+1) by omega] at hv
    obtain ⟨b2,a4,rfl,hc⟩:=d.some (by omega)
    have L:=QoN (Yf j QeO (m ++ l)) (R.map V ++ [Bb (h:Int),.int .u64 ((m ++ l).length:Int)]) (((m ++ l).drop (64*j)).take 64) b2 a4 c2 B wr hr T (HK.out.grown hg T)
     (fun i hi=>by rw [(hc i (by omega)).2];simp [hi])
    rw [← Qal] at L;have aZ:64*(j+1)≤(m ++ l).length:=by simp at aR ⊢;omega
    generalize ((m ++ l).drop (64*j)).length=nr at *;have G:=hid L;have HG:=hid hg;have HV:=hid hv;have a6:=hid aZ;have a7:=hid hR;clear L hg hv aZ hR hc hr d hj;have h64':(64:Int)≤(nr:Int):=by omega
    have hc':(64:Int)≤(c2:Int):=by omega
    go_wp2_with fail
    refine G.out.mono ?_;rintro e w5 ⟨rfl,aX,ae⟩
    go_wp2_with fail
    go_roundw
    case rel=>exact ⟨j+1,h,R,a6.out,a7.out,ae,by simpa [sliced,Addr.add] using HV.out.grown aX hN (by omega),Qo HG.out aX⟩
    case measure=>simp [lenOf];omega
   ·obtain ⟨w6,b,aY,M⟩:=Qjb _ R _ h _ 0 64 N B 3 _ wr hr hR (by omega) d
    have A:=Qtx (m ++ l) R j hR hj (by omega)
    rw [show min ((m ++ l).drop (64*j)).length (64-0)=((m ++ l).drop (64*j)).length by omega] at b M A
    generalize ((m ++ l).drop (64*j)).length=nr at *;have f6:=M.frozen 72;have c6:=(M.cell 72).trans (QaV _ _ _ _ A.1.1);have aE:=hid b;have a8:=hid M;have a5:=hid (Qo hg aY);have aN:=hid A;clear b M aY hg A d hr hR hj;have h64':(nr:Int)<64:=by omega
    go_wp2_with (refine Qgn rfl (.tmp 65) (.tmp 66) 29 29 rfl _ _ _ rfl rfl aE.out ?_)
    go_end0
    obtain ⟨q1,q2,q3⟩:=aN.out;refine ⟨rfl,Qo a5.out (YD _ _ _ _),_,q1,?_⟩;unfold QcV;rw [q2,q3,← Qf0 _ _ _ _ _ q1.1];exact a8.out.set 72 _
theorem Qch {base base':Nat} {e:TypeId} {size:Nat} (h:w.ownsRow base e size v n xs) (hb:base'≤base):w.ownsRow base' e size v n xs:=by
 refine ⟨h.1,?_⟩
 rcases h.2 with h2 | ⟨g,cap,cur,h3,h4,h5⟩
 ·exact .inl h2
 ·exact .inr ⟨g,cap,cur,h3,by omega,h5⟩
theorem Qia (B:Nat) (w:World):(Instr.sliceAt 228 (.pointer (some ⟨B,8,none⟩)) (some (Bb 64)) none none).run prog w=.ok (.slice (some ⟨B,8,none⟩) 0 0) w:=by kernel_rfl
theorem Qm8 (a:Addr) (ty:TypeId) (w:World):(Builtin.clear_ #[29] ty #[.slice (some a) 0 0]).run prog w=.ok (.tuple #[]) w:=by kernel_rfl
theorem Qm7 (m:Bg) {R:Bg} {s:Oct} {h z:Nat} (hr:Row w B 230 (dig s (R.set (m.length % 64) 128) h z)) (hR:R.length=64) :
  ∃ v w',(∀ w,(Instr.sliceAt 228 (.pointer (some ⟨B,8,none⟩)) (some (Bb (((m.length % 64:Nat):Int)+1))) none none).run prog w=.ok v w)∧(∀ ty,(Builtin.clear_ #[29] ty #[v]).run prog w=.ok (.tuple #[]) w')∧w.grownBy w' (some B)∧Row w' B 230 (dig s (ZW m R) h z):=by
 by_cases b:m.length % 64=63
 ·refine ⟨.slice (some ⟨B,8,none⟩) 0 0,w,by rw [b];exact Qia B,fun ty=>Qm8 _ _ _,YQ _ _,?_⟩
  rw [← QlW m R hR b];exact hr
 ·obtain ⟨w',h1,h2,h3⟩:=Qg6 s _ h z (m.length % 64+1) (64-(m.length % 64+1)) B w hr (by simpa using hR) (by omega)
  rw [QhK m R hR] at h3;exact ⟨_,w',Qh9 B (m.length % 64+1) (by omega),h1,h2,h3⟩
theorem Qhn (m R:Bg) (B:Nat) (w:World) (hA:Abs m R) (hB:Row w B 230 (QcV m R)) (M:B≠1) (hK:Qi w) (aE:m.length<2305843009213693952) :
  Calls prog 167 #[.pointer (some ⟨B,0,none⟩)] w fun e w' =>
   ∃ v,e=.returned v∧w'.ownsRow w.heap.size 5 1 v 32 ((sha m).map V)∧w.grownBy w' (some B):=by
 have HR:=hid hA.1;unfold QcV at hB;have ch:=(hB.cell 72).trans (QaV _ _ _ _ hA.1);have hh:((m.length % 64:Nat):Int)<64:=by omega
 have c8:=(hB.cell (8+m.length % 64)).trans (Qne _ _ _ _ _ (by rw [hA.1];omega))
 have f8:=hB.frozen (8+m.length % 64);have HC:=hid fun s w hr=>Qm7 m (R:=R) (s:=s) (h:=m.length % 64) (z:=m.length) (B:=B) (w:=w) hr hA.1
 have HS:=hid (QqG m R hA);have HL:=hid (QsX m R hA);have HB:=hid hB;have d:=hid (QdR m R hA.1);have hd64:m.length % 64<64:=by omega
 clear hA hB;generalize m.length % 64=hd at *
 go_in
 go_wp2_with fail
 refine YU 8 (by kernel_rfl) (by kernel_rfl) ?_
 simp only [Dq,CL,BU,BS]
 repeat still_step
 refine Cd ?_
 go_wp2_with fail
 generalize aA:(w.setCell _ _).drew=w1
 have Y:Row w1 B 230 (dig (Yf (m.length / 64) QeO m) (R.set hd 128) hd m.length):=by
  rw [← aA,← QoC _ _ _ _ _ (by rw [HR.out];omega)];exact HB.out.set (8+hd) (V 128)
 have aB:=hid (show w.grownBy w1 (some B) from aA ▸ ZV (YD _ _ _ _));obtain ⟨v,w2,aN,j,aD,aF⟩:=HC.out _ w1.drew Y;replace ch:=(Y.cell 72).trans (QaV _ _ _ _ (by simpa using HR.out))
 have O:=hid j;have L:=hid aF;have G:=hid (Qo (ZV aB.out) aD);clear aA Y c8 f8 aD aF j HC HB;have aO:IntKind.i64.wrap ((hd:Int)+1)=(hd:Int)+1:=by simp [IntKind.wrap,IntKind.bits,IntKind.signed];split <;> omega
 refine YU 9 (by kernel_rfl) (by kernel_rfl) ?_
 simp only [Dq,CL,BU,BS]
 repeat still_step
 refine Cd ?_;refine Qfq rfl (.tmp 19) 29 rfl _ _ rfl (O.out _) ?_;clear aN aO;replace ch:=(L.out.cell 72).trans (QaV _ _ _ _ d.out)
 go_upto_if 24 with fail
 go_cut [] (fun wr=>∃ s R,Row wr B 230 (dig s R hd m.length)∧R.length=64∧w.grownBy wr (some B)∧sha m=(ZP s (R.take 56 ++ be8 (8*m.length))).list.flatMap YG)
 case first =>
  by_cases aM:hd<56
  ·have hs':(hd:Int)<56:=by omega
   go_wp2_with fail
   go_meet
   exact ⟨_,_,L.out,d.out,G.out,HS.out aM⟩
  ·have hs':(56:Int)≤(hd:Int):=by omega
   have b:=hid (QkC L.out d.out M (hK.grown G.out M))
   go_wp2_with fail
   refine b.out.mono ?_;rintro e w3 ⟨rfl,q,D⟩;obtain ⟨w4,j,C,E⟩:=Qg6 _ _ hd m.length 0 64 B w3 D d.out (by omega)
   have O:=hid j;have aK:=hid E;have I:=hid (Qo G.out (Qo q C));clear j E q C D ch
   go_wp2_with (refine Qfq rfl (.tmp 34) 29 rfl _ _ rfl (O.out _) ?_)
   go_meet
   exact ⟨_,_,aK.out,by simp,I.out,HL.out (by omega)⟩
 case rest =>
  obtain ⟨s,R',hr,S,hg,aG⟩:=hcut;have aC:=hid (Qme s R' hd m.length B S aE wc hr);have HG:=hid hg;have aL:=hid aG;have aJ:=hid S;clear hr S hg aG ch L G aB HS HL d
  go_wp2_with fail
  refine aC.out.mono ?_;rintro e w3 ⟨rfl,q,D⟩;have A:=Qo HG.out q;have b:=hid (QkC D (by simp [aJ.out,be8]) M (hK.grown A M))
  have aI:=hid A;clear q D A
  go_wp2_with fail
  refine b.out.mono ?_;rintro e w4 ⟨rfl,C,E⟩;have T:=Qpk _ _ B w4 E;rw [← aL.out] at T;have aH:=hid T;have I:=hid (Qo aI.out C);clear T C E
  go_wp2_with fail
  refine aH.out.mono ?_;rintro e w5 ⟨v,rfl,ho,hb⟩;go_wp2;go_ret;exact ⟨_,rfl,Qch ho I.out.size,Qo I.out (QcX hb)⟩
theorem Qos: Abs [] (List.replicate 64 0):=⟨by simp,by simp⟩
theorem Qjg: QcV [] (List.replicate 64 0)=Qgs:=rfl
theorem Qi.lt (h:Qi w):(1:Nat)<w.heap.size:=CF (h 0 (by omega))
theorem Qi.below (h:Qi w) (hg:Below N w w') (hN:(1:Nat)<N):Qi w':=fun t ht=>(hg.cell hN).trans (h t ht)
theorem Qlv: Qgs.toArray.all (·.oneCell')=true:=by kernel_rfl
theorem Qji: Qkq.toArray.size=Qgs.toArray.size:=by kernel_rfl
theorem Qjt: (prog.info? 230).map (·.size)=some Qgs.toArray.size:=by rw [Qjf];exact QlJ
theorem Qbe (h:w.grownBy w' (some B)) (hN:N≤B) (hw:N≤w.heap.size):Below N w w' :=
 ⟨h.os,h.tape,h.output,h.size,fun k hk=>h.block k (by omega) (by simp;omega)⟩
end Go.Proofs.YtnedafiokmjkkaaGreatDoor
