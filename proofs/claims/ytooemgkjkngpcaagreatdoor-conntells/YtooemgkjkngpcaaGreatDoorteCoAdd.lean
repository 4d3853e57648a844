/-
  A connection more, in a copy.
-/
import Derived.Test.YtooemgkjkngpcaaGreatDoorteStApp
import Derived.Test.YtooemgkjkngpcaaGreatDoorteCoMath
import Derived.Test.YtooemgkjkngpcaaGreatDoorteBookMath
import Derived.Test.YtooemgkjkngpcaaGreatDoortePairsAll
import Derived.Test.YtooemgkjkngpcaaGreatDoorteBookTree
import Derived.Test.YtooemgkjkngpcaaGreatDoorteStMath
import Derived.Test.YtooemgkjkngpcaaGreatDoorteClShown
import Derived.Test.YtooemgkjkngpcaaGreatDoorteClRAsk
import Derived.Test.YtooemgkjkngpcaaGreatDoorteCoLive
import Derived.Deep.RegionHeld3
import Derived.Deep.RegionWith
import Derived.Deep.AppendLies
namespace Go.Proofs.YtooemgkjkngpcaaGreatDoor
set_option maxRecDepth 1000000
set_option maxHeartbeats 8000000
open Go.RowKit
theorem QhF (l:List Nat):∀ (k:List (BitVec 8)),Jo k l=k ++ l.flatMap (fun n=>47 :: YH n):=by
 induction l with
 | nil=>intro k;simp [Jo]
 | cons n l ih=>intro k;rw [Jo,ih,List.flatMap_cons];simp
theorem Qis (w:World) (s:ByteArray) (hs:s.size≤1000):Jc (Lib.bytesWorld w 5 s) w.heap.size (.slice (some ⟨w.heap.size,0,none⟩) s.size (grownCap w s.size 0 5)) (YQ s):=by
 have hge:=grownCap_ge w s.size 0 5
 have hcs:(Lib.bytesCells w 5 s).size=grownCap w s.size 0 5:=by
  have:s.data.size=s.size:=rfl
  simp [Lib.bytesCells];omega
 refine ⟨w.heap.size,_,_,_,by rw [Q2],Nat.le_refl _,Lib.bytesWorld_at_new w 5 s,.inr (Nat.le_refl _),by rw [Q2];exact hge,grownCap_le_maxLen w s.size 0 5 (by simp only [maxLen];omega),hcs,?_⟩
 rw [Q2]
 unfold Lib.bytesCells YQ
 have e:s.size=(s.data.map fun b=>Value.int .u8 (b.toNat:Int)).toList.length:=by simp
 rw [Array.toList_append,e,List.take_left]
 simp [V,b8]
theorem QgJ (w:World) (b:BitVec 8):Bytes (w.alloc (.cells #[.int .u8 (b8 b)] 5)) (w.heap.size+1) (.slice (some ⟨w.heap.size,0,none⟩) 1 1) [b]:=by
 refine .inr (.inr ⟨w.heap.size,0,1,rfl,by simp,fun i hi=>⟨by omega,?_⟩⟩)
 obtain rfl:i=0:=by simpa using hi
 rw [Row.cell (Row.new w 5 [.int .u8 (b8 b)])]
 rfl
def Qcc (k:List (BitVec 8)) (ns:List Int) (j:Nat):List (BitVec 8):=k ++ (ns.take j).flatMap (fun n=>47 :: YH n.toNat)
theorem QbM (k:List (BitVec 8)) (ns:List Int) (j:Nat) (n:Int) (h:ns[j]?=some n):Qcc k ns (j+1)=Qcc k ns j ++ [47] ++ YH n.toNat:=by
 unfold Qcc
 rw [List.take_add_one,h]
 simp
theorem QeX (k:List (BitVec 8)) (ns:List Int) (j:Nat) (h:ns.length≤j):Qcc k ns j=Jo k (ns.map (·.toNat)):=by
 unfold Qcc
 rw [QhF,List.take_of_length_le h,List.flatMap_map]
theorem QeC (k:List (BitVec 8)) (ns:List Int) (hp:∀ n∈ns,0≤n∧n≤1000000000000):∀ j,j≤ns.length→(Qcc k ns j).length≤k.length+14*j:=by
 intro j
 induction j with
 | zero=>intro _;simp [Qcc]
 | succ j ih =>
  intro hj
  obtain ⟨n,hn⟩:∃ n,ns[j]?=some n:=⟨_,List.getElem?_eq_getElem (by omega)⟩
  have:=ih (by omega)
  have h2:=hp n (List.mem_of_getElem? hn)
  have h3:=Zv 12 n.toNat (by omega)
  rw [QbM k ns j n hn]
  simp only [List.length_append,List.length_singleton]
  omega
theorem QhG (kind:ByteArray) (ns:List Int) (g n:Nat) (w:World) (hk:kind.size≤100) (hr:Row w g 3 (ns.map (Value.int .i64))) (hn:n=ns.length) (hl:n≤10) (hp:∀ n∈ns,0≤n∧n≤1000000000000) (htab:YG w) :
  Calls Tryz.prog 84 #[.string kind,.slice (some ⟨g,0,none⟩) n n] w fun e w'=>∃ v,e=.returned v∧Jc w' w.heap.size v (Jo (YQ kind) (ns.map (·.toNat)))∧Below w.heap.size w w':=by
 have hgl:=hr.lt
 have hcv:=Qdw w kind
 obtain ⟨wb,hwb⟩:∃ wb,Lib.bytesWorld w 5 kind=wb:=⟨_,rfl⟩
 have hown0:=Qis w kind (by omega)
 have hb0:=Qc4 w kind
 rw [hwb] at hcv hown0 hb0
 have HB0:=hid hb0
 have HO0:=hid hown0
 have HR:=hid hr
 have HT:=hid htab
 have HP:=hid hp
 have HN:=hid hn
 have hlk:(YQ kind).length≤100:=by rw [Q2];exact hk
 have HLN:=hid (QeC (YQ kind) ns hp)
 clear hr htab hown0 hb0 hwb hp hn
 go_enter Tryz.func84,Tryz.ntmps84
 go_wp2_with fail
 go_loopw [5,7,12] (fun o _ i wr=>∃ k:Nat,k≤n∧i=.int .i64 (k:Int)∧Hid (Jc wr w.heap.size o (Qcc (YQ kind) ns k)∧Below w.heap.size w wr)) (fun _ _ i _=>n-(intOf i).toNat)
 case atStart=>exact ⟨0,by omega,rfl,hid ⟨by have:=HO0.out;simpa [Qcc] using this,HB0.out⟩⟩
 case round =>
  obtain ⟨k,hk',rfl,HI⟩:=hrel
  have HBW:=hid HI.out.2
  have HOW:=hid HI.out.1
  have hszw:=HBW.out.size
  clear HI
  by_cases hlt:k<n
  ·obtain ⟨x,hx⟩:∃ x,ns[k]?=some x:=⟨ns[k]'(by rw [← HN.out];exact hlt),List.getElem?_eq_getElem _⟩
   have hlt':(k:Int)<(n:Int):=by omega
   have c0:wr.cell? ⟨g,k,none⟩=some (.int .i64 x):=by rw [(HR.out.below HBW.out hgl).cell,List.getElem?_map,hx];rfl
   have hx0:=HP.out x (List.mem_of_getElem? hx)
   obtain ⟨u,rfl⟩:∃ u:Nat,x=(u:Int):=⟨x.toNat,by omega⟩
   have HX:=hid hx
   have HNX:=hid (QbM (YQ kind) ns k _ hx)
   have hln:=HLN.out k (by rw [← HN.out];omega)
   clear hx
   go_wp2_with (at_builtin;refine Hid.out ?_)
   refine hid ?_
   refine Qaz rfl (.tmp 16) (.tmp 17) rfl w.heap.size _ _ (Qcc (YQ kind) ns k) [47] rfl (HOW.out.below ((Below.refl _ _).alloc (Nat.le_refl _) _)) (wr.heap.size+1) rfl (QgJ wr 47) (by simp;omega) (by simp;omega) ?_
   intro v1 w1 ho1 hb1 _
   have HB1:=hid (HBW.out.trans (((Below.refl _ _).alloc hszw _).trans hb1))
   have HAP:=hid (Qdf u (by omega) _ v1 w.heap.size w1 HB1.out.size ho1 (by simp;omega) (HT.out.below HB1.out))
   clear ho1 hb1
   go_wp2_with (go_at_call 114;refine (HAP.out).mono ?_;rintro e w2 ⟨v2,rfl,ho2,hb2,-⟩)
   go_roundw
   case rel=>exact ⟨k+1,by omega,by go_num,hid ⟨by rw [HNX.out];exact ho2,HB1.out.trans hb2⟩⟩
   case measure=>simp [intOf];omega
  ·have hge:decide ((k:Int)<(n:Int))=false:=by simp;omega
   have HE:=hid (QeX (YQ kind) ns k (by rw [← HN.out];omega))
   obtain ⟨ov,hov⟩:∃ ov,u5=ov:=⟨_,rfl⟩
   go_wp2
   go_ret
   exact ⟨_,rfl,by rw [← HE.out];exact HOW.out,HBW.out⟩
theorem Qj0 (n:Nat):Yk n≠[]:=by
 by_cases h:n<128
 ·rw [Qag h];simp
 ·rw [Qbn (by omega)];simp
theorem Qh8 (l:List Int):ZU l≠[]:=by
 unfold ZU
 intro h
 exact Qj0 _ (List.append_eq_nil_iff.1 h).1
theorem Jc.of_own {w:World} {base:Nat} {v:Value} {l:List (BitVec 8)} (h:Qs w base v l) (hl:l≠[]):Jc w base v l:=by
 refine Jc.of_new h fun e=>?_
 obtain ⟨h1,⟨_,h0⟩ | ⟨g,cap,cur,hv,_⟩⟩:=h
 ·exact hl (List.length_eq_zero_iff.1 h0)
 ·rw [e] at hv;simp at hv
theorem Jc.mono {w:World} {base base':Nat} {v:Value} {l:List (BitVec 8)} (h:Jc w base v l) (hb:base'≤base):Jc w base' v l:=by
 obtain ⟨g,cap,cur,fz,h1,h2,h3⟩:=h
 exact ⟨g,cap,cur,fz,h1,Nat.le_trans hb h2,h3⟩
def Qia (cs:List Value) (ns:List Int) (n k:Nat):Prop:=cs.length=n*3∧∀ (i:Nat) x,i<k→ns[i]?=some x→cs[i*3]?=some (.int .i64 1)∧cs[i*3+1]?=some (.int .u64 x)∧cs[i*3+2]?=some (.slice none 0 0)
theorem Qia.next {cs:List Value} {ns:List Int} {n k:Nat} {x:Int} (h:Qia cs ns n k) (hx:ns[k]?=some x) (hk:k<n):Qia (((cs.set (k*3) (.int .i64 1)).set (k*3+1) (.int .u64 x)).set (k*3+2) (.slice none 0 0)) ns n (k+1):=by
 refine ⟨by simp [h.1],fun i y hi hy=>?_⟩
 have hl:=h.1
 by_cases e:i=k
 ·subst e
  obtain rfl:x=y:=by rw [hx] at hy;simpa using hy
  refine ⟨?_,?_,?_⟩
  ·rw [List.getElem?_set_ne (by omega),List.getElem?_set_ne (by omega),List.getElem?_set_self (by omega)]
  ·rw [List.getElem?_set_ne (by omega),List.getElem?_set_self (by simp;omega)]
  ·rw [List.getElem?_set_self (by simp;omega)]
 ·obtain ⟨h1,h2,h3⟩:=h.2 i y (by omega) hy
  refine ⟨?_,?_,?_⟩
  ·rw [List.getElem?_set_ne (by omega),List.getElem?_set_ne (by omega),List.getElem?_set_ne (by omega)];exact h1
  ·rw [List.getElem?_set_ne (by omega),List.getElem?_set_ne (by omega),List.getElem?_set_ne (by omega)];exact h2
  ·rw [List.getElem?_set_ne (by omega),List.getElem?_set_ne (by omega),List.getElem?_set_ne (by omega)];exact h3
theorem Qel {w:World} {g n:Nat} {cs:List Value} {ns:List Int} (hr:Row w g 107 cs) (h:Qia cs ns n n) (hn:n=ns.length) (hp:∀ x∈ns,0≤x):J3 w w.heap.size (.slice (some ⟨g,0,none⟩) n n) (ns.map ZX):=by
 refine .inr (.inr ⟨g,0,n,by rw [List.length_map,hn],by rw [List.length_map,hn];exact Nat.le_refl _,fun i p hi=>⟨hr.lt,.slice none 0 0,?_⟩⟩)
 obtain ⟨x,hx,rfl⟩:∃ x,ns[i]?=some x∧ZX x=p:=by simpa [List.getElem?_map] using hi
 have hil:i<ns.length:=(List.getElem?_eq_some_iff.1 hx).1
 obtain ⟨h1,h2,h3⟩:=h.2 i x (by omega) hx
 have hx0:=hp x (List.mem_of_getElem? hx)
 rw [Nat.zero_add,hr.cell,hr.cell,hr.cell]
 refine ⟨h1,?_,h3,.inl ⟨rfl,rfl⟩⟩
 rw [h2]
 congr 2
 show x=((x.toNat:Nat):Int)
 omega
theorem Qej (ns:List Int) (g n:Nat) (w:World) (hr:Row w g 3 (ns.map (Value.int .i64))) (hn:n=ns.length) (hl:n≤4) (hp:∀ x∈ns,0≤x∧x≤9223372036854775807) :
  Calls Tryz.prog 88 #[.slice (some ⟨g,0,none⟩) n n] w fun e w'=>∃ v,e=.returned v∧Jc w' w.heap.size v (ZU ns)∧Below w.heap.size w w':=by
 have hgl:=hr.lt
 obtain ⟨i0,hi0,hz0,hz1,hz2⟩:=info_parts Qf9
 obtain ⟨w1,hrun,hown1,hgr1⟩:=run_make_full (P:=Tryz.prog) w w.heap.size 147 107 i0 _ 3 Tryz.underlying147 hi0 hz0 hz1 .i64 .i64 n (by rw [hz2];omega) (by unfold maxLen;omega) (Nat.le_refl _)
 have HB1:=hid (show Below w.heap.size w w1 from ⟨hgr1.os,hgr1.tape,hgr1.output,hgr1.size,fun k hk=>hgr1.block k hk (by simp)⟩)
 obtain ⟨cs,HROW,HLEN⟩:∃ cs:List Value,Hid (Row w1 w.heap.size 107 cs)∧Hid (cs.length=n*3):=by
  obtain ⟨h1,⟨h2,_⟩ | ⟨g',cap,cur,h2,_,hg,_,_,hcs,_⟩⟩:=hown1
  ·simp at h2
  ·simp at h2
   obtain ⟨rfl,rfl⟩:=h2
   exact ⟨cur.toList,hid (by unfold Row;simpa using hg),hid (by simpa using hcs)⟩
 have HR:=hid hr
 have HP:=hid hp
 have HN:=hid hn
 have HWR:=hid (QdR ns (by omega) (fun x hx=>by have:=hp x hx;omega)).1
 have HFIT:=hid (show ∀ p∈ns.map ZX,p.fits from fun p hpm=>by
  obtain ⟨x,hx,rfl⟩:=List.mem_map.1 hpm
  have:=hp x hx
  refine ⟨?_,?_⟩
  ·show x.toNat<_;omega
  ·simp [ZX])
 clear hr hown1 hgr1 hp hn
 go_enter Tryz.func88,Tryz.ntmps88
 go_wp2_with fail
 go_loopw [4,5,13] (fun _ _ i wr=>∃ k:Nat,k≤n∧i=.int .i64 (k:Int)∧Hid (Below w.heap.size w wr∧∃ cs,Row wr w.heap.size 107 cs∧Qia cs ns n k)) (fun _ _ i _=>n-(intOf i).toNat)
 case atStart=>exact ⟨0,by omega,rfl,hid ⟨HB1.out,cs,HROW.out,HLEN.out,fun i x hi=>absurd hi (by omega)⟩⟩
 case round =>
  obtain ⟨k,hk',rfl,HI⟩:=hrel
  obtain ⟨hbw,cs',hrow,hlaid⟩:=HI.out
  have HBW:=hid hbw
  have HRW:=hid hrow
  have HLD:=hid hlaid
  have hszw:=HBW.out.size
  have hlt0:=hrow.lt
  clear HI hbw hrow hlaid
  by_cases hlt:k<n
  ·obtain ⟨x,hx⟩:∃ x,ns[k]?=some x:=⟨ns[k]'(by rw [← HN.out];exact hlt),List.getElem?_eq_getElem _⟩
   have hlt':(k:Int)<(n:Int):=by omega
   have c0:wr.cell? ⟨g,k,none⟩=some (.int .i64 x):=by rw [(HR.out.below HBW.out hgl).cell,List.getElem?_map,hx];rfl
   have hx0:=HP.out x (List.mem_of_getElem? hx)
   have hwx:IntKind.u64.wrap x=x:=by rw [IntKind.wrap_u64];omega
   have hl3:=HLD.out.1
   obtain ⟨q0,e0⟩:∃ q,cs'[k*3]?=some q:=⟨_,List.getElem?_eq_getElem (by omega)⟩
   obtain ⟨q1,e1⟩:∃ q,cs'[k*3+1]?=some q:=⟨_,List.getElem?_eq_getElem (by omega)⟩
   obtain ⟨q2,e2⟩:∃ q,cs'[k*3+2]?=some q:=⟨_,List.getElem?_eq_getElem (by omega)⟩
   have y0:wr.cell? ⟨w.heap.size,k*3,none⟩=some q0:=by rw [HRW.out.cell];exact e0
   have y1:wr.cell? ⟨w.heap.size,k*3+1,none⟩=some q1:=by rw [HRW.out.cell];exact e1
   have y2:wr.cell? ⟨w.heap.size,k*3+2,none⟩=some q2:=by rw [HRW.out.cell];exact e2
   have f0:=HRW.out.frozen (k*3)
   have f1:=HRW.out.frozen (k*3+1)
   have f2:=HRW.out.frozen (k*3+2)
   have HX:=hid hx
   obtain ⟨wn,hwn⟩:∃ wn,((wr.setCell ⟨w.heap.size,k*3,none⟩ (.int .i64 1)).setCell ⟨w.heap.size,k*3+1,none⟩ (.int .u64 x)).setCell ⟨w.heap.size,k*3+2,none⟩ (.slice none 0 0)=wn:=⟨_,rfl⟩
   have HBN:=hid (show Below w.heap.size w wn by rw [← hwn];exact ((HBW.out.setCell (Nat.le_refl _) _).setCell (Nat.le_refl _) _).setCell (Nat.le_refl _) _)
   have HRN:=hid (show Row wn w.heap.size 107 _ by rw [← hwn];exact ((HRW.out.set (k*3) _).set (k*3+1) _).set (k*3+2) _)
   have HLN:=hid (HLD.out.next hx hlt)
   have HWN:=hid hwn
   clear hx e0 e1 e2 hl3 hwn
   go_wp2
   first | rw [HWN.out] | skip
   go_roundw
   case rel=>exact ⟨k+1,by omega,by go_num,hid ⟨by first | exact HBN.out | (rw [HWN.out];exact HBN.out),_,by first | exact HRN.out | (rw [HWN.out];exact HRN.out),HLN.out⟩⟩
   case measure=>simp [intOf];omega
  ·have hge:decide ((k:Int)<(n:Int))=false:=by simp;omega
   obtain rfl:k=n:=by omega
   have HPC:=hid (Qel HRW.out HLD.out HN.out (fun x hx=>(HP.out x hx).1))
   have HCL:=hid (QgU (ns.map ZX) _ wr.heap.size wr HPC.out (Nat.le_refl _) (by rw [List.length_map,← HN.out];omega) HFIT.out)
   go_wp2_with fail
   refine HCL.out.mono ?_
   rintro e w2 ⟨hb2,⟨x,v,hx,rfl,hown⟩ | ⟨c,i,hx,_⟩⟩
   ·obtain rfl:ZU ns=x:=by rw [HWR.out] at hx;simpa using hx
    have HB2:=hid (HBW.out.trans (hb2.mono hszw))
    have HO2:=hid (Jc.mono (Jc.of_own hown (Qh8 ns)) hszw)
    clear hb2 hx hown
    unfold okV
    go_wp2
    go_ret
    exact ⟨_,rfl,HO2.out.below ((Below.refl _ _).alloc (Nat.le_refl _) _),HB2.out.alloc HB2.out.size _⟩
   ·rw [HWR.out] at hx;cases hx
theorem QeP (k:Int) (hk:0≤k∧k≤1000000000000) (w:World) (htab:YG w):Calls Tryz.prog 85 #[.int .i64 k] w fun e w'=>∃ v,e=.returned v∧Jc w' w.heap.size v (Jo QN [k.toNat])∧Below w.heap.size w w':=by
 obtain ⟨w0,hw0⟩:∃ w0,w.alloc (.cells #[.int .i64 k] 3)=w0:=⟨_,rfl⟩
 have hb0:=bof hw0
 have HB0:=hid hb0
 have HK:=hid (QhG ⟨#[99,111,110,110]⟩ [k] w.heap.size 1 w0 (by decide) (by rw [← hw0];exact Row.new _ _ _) rfl (by decide) (fun n hn=>by simp at hn;omega) (htab.below hb0))
 have HW0:=hid hw0
 clear hb0 hw0 htab
 go_enter Tryz.func85,Tryz.ntmps85
 go_wp2_with fail
 rw [HW0.out]
 refine HK.out.mono ?_
 rintro e w1 ⟨v,rfl,ho,hb⟩
 have HO:=hid ho
 have HB:=hid hb
 clear ho hb
 go_wp2
 go_ret
 exact ⟨v,rfl,HO.out.mono HB0.out.size,HB0.out.trans (HB.out.mono HB0.out.size)⟩
theorem QeF (c:Cn) (h:Qk c=0) (w:World):Calls Tryz.prog 86 #[.agg #[.int .i64 c.state,.int .i64 c.client,.int .i64 c.oclient,.int .i64 c.oconn]] w fun e w'=>∃ v,e=.returned v∧Jc w' w.heap.size v (JA c)∧Below w.heap.size w w':=by
 obtain ⟨w0,hw0⟩:∃ w0,w.alloc (.cells #[.int .i64 c.state,.int .i64 c.client,.int .i64 c.oclient,.int .i64 c.oconn] 58)=w0:=⟨_,rfl⟩
 have hb0:=bof hw0
 have HB0:=hid hb0
 have hr0:=(show Row w0 w.heap.size 58 [.int .i64 c.state,.int .i64 c.client,.int .i64 c.oclient,.int .i64 c.oconn] by rw [← hw0];exact Row.new _ _ _)
 have k0:=hr0.cell 0
 have k1:=hr0.cell 1
 have k2:=hr0.cell 2
 have k3:=hr0.cell 3
 have hok:=Jx h
 have hwr:IntKind.i64.wrap (c.oconn+1)=c.oconn+1:=by rw [IntKind.wrap_i64];omega
 obtain ⟨w1,hw1⟩:∃ w1,w0.alloc (.cells #[.int .i64 (c.state),.int .i64 (c.client),.int .i64 (c.oclient),.int .i64 (c.oconn+1)] 3)=w1:=⟨_,rfl⟩
 have hb1:=bof hw1
 have HB1:=hgo HB0 hb1
 have HC:=hid (Qej [c.state,c.client,c.oclient,c.oconn+1] w0.heap.size 4 w1 (by rw [← hw1];exact Row.new _ _ _) rfl (by decide) (fun x hx=>by
  simp only [List.mem_cons,List.not_mem_nil,or_false] at hx
  omega))
 have HW0:=hid hw0
 have HW1:=hid hw1
 clear hr0 hb0 hb1 hw0 hw1 h hok
 go_enter Tryz.func86,Tryz.ntmps86
 go_upto_region 1 with fail
 rw [HW0.out]
 go_wp2_with fail
 rw [HW1.out]
 refine HC.out.mono ?_
 rintro e w2 ⟨v,rfl,hown,hb2⟩
 have HB2:=hgo HB1 hb2
 have HO:=hid (hown.mono HB1.out.size)
 clear hb2 hown
 go_wp2
 go_ret
 exact ⟨_,rfl,HO.out,HB2.out⟩
theorem QdZ (w:World) (n N:Nat):Below N w (w.drewN n):=⟨rfl,rfl,rfl,Nat.le_refl _,fun _ _=>rfl⟩
theorem Qec (r:List (BitVec 8)) (p:Prf) (rv v:Value) (N:Nat) (w:World) (hN:N≤w.heap.size) (hr:Bytes w N rv r) (hp:QaH w N v p) (_hf:p.fits) (hrl:r.length≤140737488351232) :
  Calls Tryz.prog 70 #[rv,v] w fun e w'=>Below w.heap.size w w'∧Jq (YW r p) e:=by
 obtain ⟨kv,vv,pv,rfl,hk,hv,hpt⟩:=hp
 obtain ⟨o1,c1,rfl,_⟩:=hk.shape
 obtain ⟨o2,c2,rfl,_⟩:=hv.shape
 obtain ⟨o3,c3,rfl,_⟩:=hpt.shape
 obtain ⟨w1,hw1⟩:∃ w1,w.alloc (.cells #[.int .i64 p.index,.int .i64 p.size,.slice o1 p.key.length c1,.slice o2 p.val.length c2,.slice o3 p.path.length c3] 42)=w1:=⟨_,rfl⟩
 have hsz1:w1.heap.size=w.heap.size+1:=by rw [← hw1];simp
 have hb1:=bof hw1
 have hrow1:Row w1 w.heap.size 42 [.int .i64 p.index,.int .i64 p.size,.slice o1 p.key.length c1,.slice o2 p.val.length c2,.slice o3 p.path.length c3]:=by rw [← hw1];exact Row.new _ _ _
 have HB1:=hid hb1
 have HR1:=hid hrow1
 have HW1:=hid hw1
 have HK:=hid (hk.below (hb1.mono hN))
 have HV:=hid (hv.below (hb1.mono hN))
 have HP:=hid (hpt.below (hb1.mono hN))
 have HR:=hid (hr.below (hb1.mono hN))
 have q0:=HR1.out.cell 0
 have q1:=HR1.out.cell 1
 have q2:=HR1.out.cell 2
 have q3:=HR1.out.cell 3
 have q4:=HR1.out.cell 4
 clear hk hv hpt hr hb1 hrow1 hw1
 have HSH:=hid (show YW r p↔(1≤p.size∧p.size≤200∧0≤p.index∧p.index<p.size∧p.key.length≤60∧p.val.length≤200∧p.path.length=(J2 p.index.toNat p.size.toNat 0).length∧(∀ d∈p.path,d.length=32) ∧
  QhN p.size.toNat (upD (J2 p.index.toNat p.size.toNat 0) p.path.reverse (Q1 p.key p.val))=r) from Iff.rfl)
 go_enter Tryz.func70,Tryz.ntmps70
 by_cases g1:p.size<1
 ·have e1:decide (p.size<1)=true:=by simpa using g1
  go_wp2
  go_ret
  exact ⟨by rw [HW1.out];exact HB1.out,Jq.no (fun h=>by have h:=HSH.out.1 h;omega)⟩
 have e1:decide (p.size<1)=false:=by simpa using g1
 by_cases g2:200<p.size
 ·have e2:decide ((200:Int)<p.size)=true:=by simpa using g2
  go_wp2
  go_ret
  exact ⟨by rw [HW1.out];exact HB1.out,Jq.no (fun h=>by have h:=HSH.out.1 h;omega)⟩
 have e2:decide ((200:Int)<p.size)=false:=by simpa using g2
 by_cases g3:p.index<0
 ·have e3:decide (p.index<0)=true:=by simpa using g3
  go_wp2
  go_ret
  exact ⟨by rw [HW1.out];exact HB1.out,Jq.no (fun h=>by have h:=HSH.out.1 h;omega)⟩
 have e3:decide (p.index<0)=false:=by simpa using g3
 by_cases g4:p.size≤p.index
 ·have e4:decide (p.size≤p.index)=true:=by simpa using g4
  go_wp2
  go_ret
  exact ⟨by rw [HW1.out];exact HB1.out,Jq.no (fun h=>by have h:=HSH.out.1 h;omega)⟩
 have e4:decide (p.size≤p.index)=false:=by simpa using g4
 by_cases g5:60<p.key.length
 ·have e5:decide ((60:Int)<(p.key.length:Int))=true:=by simp;omega
  go_wp2
  go_ret
  exact ⟨by rw [HW1.out];exact HB1.out,Jq.no (fun h=>by have h:=HSH.out.1 h;omega)⟩
 have e5:decide ((60:Int)<(p.key.length:Int))=false:=by simp;omega
 by_cases g6:200<p.val.length
 ·have e6:decide ((200:Int)<(p.val.length:Int))=true:=by simp;omega
  go_wp2
  go_ret
  exact ⟨by rw [HW1.out];exact HB1.out,Jq.no (fun h=>by have h:=HSH.out.1 h;omega)⟩
 have e6:decide ((200:Int)<(p.val.length:Int))=false:=by simp;omega
 obtain ⟨n,hn⟩:∃ n:Nat,p.size=(n:Int):=⟨p.size.toNat,by omega⟩
 obtain ⟨i,hi⟩:∃ i:Nat,p.index=(i:Int):=⟨p.index.toNat,by omega⟩
 have HWY:=hid (Qgw i n w1 (by omega) (by omega))
 rw [← hn,← hi] at HWY
 obtain ⟨ws,hws⟩:∃ ws,J2 i n 0=ws:=⟨_,rfl⟩
 rw [hws] at HWY
 have HWL:=hid (show ws.length≤n by rw [← hws];exact Y7 n i 0)
 have HSH2:=hid (show YW r p↔(p.path.length=ws.length∧(∀ d∈p.path,d.length=32)∧QhN n (upD ws p.path.reverse (Q1 p.key p.val))=r) from by
  rw [HSH.out,hn,hi,Int.toNat_natCast,Int.toNat_natCast,hws]
  constructor
  ·rintro ⟨_,_,_,_,_,_,h1,h2,h3⟩
   exact ⟨h1,h2,h3⟩
  ·rintro ⟨h1,h2,h3⟩
   exact ⟨by omega,by omega,by omega,by omega,by omega,by omega,h1,h2,h3⟩)
 have hn200:n≤200:=by omega
 have HSZP:=hid hn
 have HKL:=hid (show p.key.length≤60∧p.val.length≤200 by omega)
 clear hws hn hi HSH
 go_wp2_with fail
 rw [HW1.out]
 refine HWY.out.mono ?_
 rintro e w2 ⟨vw,rfl,hrw,hb2⟩
 have hsz2:=hb2.size
 obtain ⟨ow,cw,rfl,hcw⟩:=hrw.shape
 have HRW:=hid hrw
 have HB2:=hid (HB1.out.trans (hb2.mono (by omega)))
 have HR2:=hid (HR1.out.below hb2 (by omega))
 have HK2:=hid (HK.out.below (hb2.mono (by omega)))
 have HV2:=hid (HV.out.below (hb2.mono (by omega)))
 have HP2:=hid (HP.out.below (hb2.mono (by omega)))
 have HRT2:=hid (HR.out.below (hb2.mono (by omega)))
 clear hrw hb2 HWY q0 q1 q2 q3 q4 e1 e2 e3 e4 e5 e6 g1 g2 g3 g4 g5 g6 HK HV HP HR HR1
 have q1:=HR2.out.cell 1
 have q2:=HR2.out.cell 2
 have q3:=HR2.out.cell 3
 have q4:=HR2.out.cell 4
 generalize hm:ws.length=m at *
 have HM:=hid hm
 clear hm
 generalize hmp:p.path.length=mp at *
 have HMP:=hid hmp
 clear hmp
 by_cases hlen:mp=m
 ·subst hlen
  have hmp200:mp≤200:=by have:=HWL.out;omega
  have e1:((mp:Int) != (mp:Int))=false:=by simp
  have HLF:=hid (Qfc p.key p.val (.slice o1 p.key.length c1) (.slice o2 p.val.length c2) N w2 (by omega) HK2.out HV2.out (by have:=HKL.out;omega) (by have:=HKL.out;omega))
  go_wp2_with fail
  refine HLF.out.mono ?_
  rintro e w3 ⟨o4,c4,rfl,hown3,hb3⟩
  have hsz3:=hb3.size
  have HB3:=hid (HB2.out.trans (hb3.mono (by omega)))
  have HR3:=hid (HR2.out.below hb3 (by omega))
  have HP3:=hid (HP2.out.below (hb3.mono (by omega)))
  have HRT3:=hid (HRT2.out.below (hb3.mono (by omega)))
  have HRW3:=hid (HRW.out.below hb3)
  have HO3:=hid hown3
  clear hb3 hown3 q1 q2 q3 q4 HLF HRW HR2 HK2 HV2 HP2 HRT2
  have q4:=HR3.out.cell 4
  go_wp2_with fail
  go_loopw [6,60] (fun s6 s60 wr=>∃ k:Nat,k≤mp∧s60=.int .i64 (k:Int)∧Hid (Qs wr w2.heap.size s6 (upK ws p.path k (Q1 p.key p.val))∧Below w3.heap.size w3 wr∧∀ d∈p.path.take k,d.length=32)) (fun _ s60 _=>mp-(intOf s60).toNat)
  case atStart=>exact ⟨0,Nat.zero_le _,rfl,hid ⟨by rw [Qfk];exact HO3.out,Below.refl _ _,by simp⟩⟩
  case round =>
   obtain ⟨k,hk,rfl,HR⟩:=hrel
   have hszr:=HR.out.2.1.size
   by_cases hlt:k<mp
   ·have hlp:Jf w3 N (.slice o3 p.path.length c3) p.path:=by rw [HMP.out];exact HP3.out
    obtain ⟨b,o,rfl,hc⟩:=hlp.some (by rw [HMP.out];omega)
    obtain ⟨hbN,x,hx,hbx⟩:=hc k (by rw [HMP.out];exact hlt)
    obtain ⟨d,hd⟩:∃ d,p.path.getD k []=d:=⟨_,rfl⟩
    have hdk:p.path[k]?=some d:=by rw [← hd];exact getD_some _ _ _ (by rw [HMP.out];exact hlt)
    rw [hd] at hbx
    obtain ⟨od,cd,rfl,_⟩:=hbx.shape
    have f0:=(HR.out.2.1.cell (p:=⟨b,o+k,none⟩) (show b<w3.heap.size by omega)).trans hx
    have HDB:=hid (hbx.below (HR.out.2.1.mono (show N≤w3.heap.size by omega)))
    have HDM:=hid (List.mem_of_getElem? hdk)
    have HDK:=hid hdk
    have hlt':(k:Int)<(mp:Int):=by omega
    obtain ⟨oy,cy,hsy,_⟩:=HR.out.1.shape
    have HY32:=hid (Qcj ws p.path k (Q1 p.key p.val) (by unfold Q1;exact Jb _))
    rw [HY32.out] at hsy
    subst hsy
    clear hlp hc hx hbx hd hdk
    by_cases h32:d.length=32
    ·have e2:((d.length:Int) != 32)=false:=by simp;omega
     obtain ⟨t,ht⟩:∃ t,ws[mp-1-k]?=some t:=⟨ws[mp-1-k]'(by rw [HM.out];omega),List.getElem?_eq_getElem _⟩
     obtain ⟨gw,rfl,_,hgw,hcw2⟩:=HRW3.out.get (by omega)
     obtain ⟨t0,_,_⟩:=hcw2 (mp-1-k) t ht
     have k0:=(HR.out.2.1.cell (p:=⟨gw,(mp-1-k)*3,none⟩) hgw).trans t0
     have HUP:=hid (QeO ws p.path k (Q1 p.key p.val) t d (by rw [HM.out];exact ht) (by rw [HM.out];exact hlt) HDK.out)
     have HTK:=hid (show ∀ d'∈p.path.take (k+1),d'.length=32 from fun d' hd'=>by
      obtain ⟨j,hj,rfl⟩:=List.getElem_of_mem hd'
      rw [List.getElem_take]
      by_cases ej:j=k
      ·subst ej
       have:=HDK.out
       rw [List.getElem?_eq_getElem (by rw [HMP.out];omega)] at this
       obtain h:=Option.some.inj this
       rw [h]
       exact h32
      ·have hjl:j<k:=by simp at hj;omega
       refine HR.out.2.2 _ ?_
       rw [List.mem_iff_getElem]
       exact ⟨j,by simp;rw [HMP.out];omega,by rw [List.getElem_take]⟩)
     have j1:IntKind.i64.wrap ((mp:Int)-1)=(mp:Int)-1:=by rw [IntKind.wrap_i64];omega
     have j2:(mp:Int)-1-(k:Int)=((mp-1-k:Nat):Int):=by omega
     have j3:IntKind.i64.wrap ((mp:Int)-1-(k:Int))=((mp-1-k:Nat):Int):=by rw [IntKind.wrap_i64];omega
     have j4:((mp-1-k:Nat):Int)<(mp:Int):=by omega
     have hdl:d.length≤100000:=by omega
     have HSZR:=hid (show w2.heap.size≤wr.heap.size by omega)
     rw [h32] at f0 HDB
     obtain ⟨jj,hjj⟩:∃ jj,mp-1-k=jj:=⟨_,rfl⟩
     rw [hjj] at k0 j2 j3 j4
     clear hcw2 t0 hjj e2
     cases htr:t.right with
     | true =>
      rw [htr] at k0
      have HND:=hid (Qb5 d (upK ws p.path k (Q1 p.key p.val)) (.slice od 32 cd) (.slice oy 32 cy) wr.heap.size wr (Nat.le_refl _) (HDB.out.mono (by omega)) HR.out.1.bytes hdl (by rw [HY32.out];decide))
      have HU2:=hid (show upK ws p.path (k+1) (Q1 p.key p.val)=Qcv d (upK ws p.path k (Q1 p.key p.val)) by rw [HUP.out,if_pos htr])
      clear htr
      go_wp2_with fail
      refine HND.out.mono ?_
      rintro e w5 ⟨o5,c5,rfl,hown5,hb5⟩
      have HO5:=hid (hown5.mono HSZR.out)
      have HB5:=hid (HR.out.2.1.trans (hb5.mono hszr))
      clear hown5 hb5
      go_wp2_with fail
      exact ⟨⟨k+1,by omega,by go_num,hid ⟨by rw [HU2.out];exact HO5.out,HB5.out,HTK.out⟩⟩,by simp [intOf];omega⟩
     | false =>
      rw [htr] at k0
      have HND:=hid (Qb5 (upK ws p.path k (Q1 p.key p.val)) d (.slice oy 32 cy) (.slice od 32 cd) wr.heap.size wr (Nat.le_refl _) HR.out.1.bytes (HDB.out.mono (by omega)) (by rw [HY32.out];decide) hdl)
      have HU2:=hid (show upK ws p.path (k+1) (Q1 p.key p.val)=Qcv (upK ws p.path k (Q1 p.key p.val)) d by rw [HUP.out,if_neg (by rw [htr];decide)])
      clear htr
      go_wp2_with fail
      refine HND.out.mono ?_
      rintro e w5 ⟨o5,c5,rfl,hown5,hb5⟩
      have HO5:=hid (hown5.mono HSZR.out)
      have HB5:=hid (HR.out.2.1.trans (hb5.mono hszr))
      clear hown5 hb5
      go_wp2_with fail
      exact ⟨⟨k+1,by omega,by go_num,hid ⟨by rw [HU2.out];exact HO5.out,HB5.out,HTK.out⟩⟩,by simp [intOf];omega⟩
    ·have e2:((d.length:Int) != 32)=true:=by simp;omega
     have HBR:=hid (HB3.out.trans (HR.out.2.1.mono (by omega)))
     go_wp2
     go_ret
     exact ⟨HBR.out,Jq.no (fun h=>h32 ((HSH2.out.1 h).2.1 d HDM.out))⟩
   ·have hge:decide ((k:Int)<(mp:Int))=false:=by simp;omega
    obtain rfl:k=mp:=by omega
    have HRR:=hid (HR3.out.below HR.out.2.1 (by omega))
    have r1:=HRR.out.cell 1
    have HUA:=hid (show upK ws p.path k (Q1 p.key p.val)=upD ws p.path.reverse (Q1 p.key p.val) by
     have:=QgH ws p.path (Q1 p.key p.val) (by rw [HMP.out,HM.out])
     rw [HM.out] at this
     exact this)
    have HALL:=hid (show ∀ d∈p.path,d.length=32 from fun d hd=>HR.out.2.2 d (by rw [List.take_of_length_le (by rw [HMP.out];exact Nat.le_refl _)];exact hd))
    have HTP:=hid (Qfz n (upK ws p.path k (Q1 p.key p.val)) u6 wr.heap.size wr (Nat.le_refl _) HR.out.1.bytes (by omega) (by rw [Qcj ws p.path k (Q1 p.key p.val) (by unfold Q1;exact Jb _)];decide))
    rw [← HSZP.out] at HTP
    have HBR:=hid (HB3.out.trans (HR.out.2.1.mono (by omega)))
    have HRTR:=hid (HRT3.out.below (HR.out.2.1.mono (by omega)))
    go_wp2_with fail
    refine HTP.out.mono ?_
    rintro e w5 ⟨o5,c5,rfl,hown5,hb5⟩
    have HB5:=hid (HBR.out.trans (hb5.mono (by omega)))
    have HS5:=hid (Zt (QhN n (upK ws p.path k (Q1 p.key p.val))) r (.slice o5 32 c5) rv w5.heap.size N w5 hown5.bytes (HRTR.out.below (hb5.mono (by omega))) (by unfold QhN;rw [Jb];decide) (by omega))
    clear hown5 hb5 HTP
    go_wp2_with fail
    refine HS5.out.mono ?_
    rintro e w6 ⟨rfl,q6,rfl⟩
    go_wp2
    go_ret
    refine ⟨HB5.out.trans (QdZ _ _ _),_,rfl,?_⟩
    rw [decide_eq_true_iff,HSH2.out,HUA.out]
    constructor
    ·intro h
     exact ⟨by trivial,HALL.out,h⟩
    ·rintro ⟨_,_,h⟩
     exact h
 ·have e1:((m:Int) != (mp:Int))=true:=by simp;omega
  go_wp2
  go_ret
  exact ⟨HB2.out,Jq.no (fun h=>by have h:=HSH2.out.1 h;exact absurd h.1 hlen)⟩
theorem Qhc:QiY 70:=fun r p rv v N w _ hN hr hp hf hrl=>Qec r p rv v N w hN hr hp hf hrl
theorem Qge:QaN 22:=by
 intro c now height key val p cv kv vv pv N w htab hN hcv hk hv hp hcf hkl hvl hpf
 have HSS:=hid (show ∀ wx,Below w.heap.size w wx→∀ (root:List (BitVec 8)) (rv:Value),Bytes wx wx.heap.size rv root→root.length≤140737488351232→_ from fun wx hx root rv hr hrl=>Qhc root p rv pv wx.heap.size wx (htab.below hx htab.lt) (Nat.le_refl _) hr ((hp.below (hx.mono hN)).mono (Nat.le_trans hN hx.size)) hpf hrl)
 have HP:=hid hp
 have HKK:=hid hk
 have HV:=hid hv
 obtain ⟨x1,x2,x3,rfl,h1,h2,h3⟩:=hp
 have HE1:=hid (fun wx (hx:Below w.heap.size w wx)=>Zt p.key key x1 kv N N wx (h1.below (hx.mono hN)) (hk.below (hx.mono hN)) (by have:=hpf.1;omega) (by omega))
 have HE2:=hid (fun wx (hx:Below w.heap.size w wx)=>Zt p.val val x2 vv N N wx (h2.below (hx.mono hN)) (hv.below (hx.mono hN)) (by have:=hpf.2.1;omega) (by omega))
 obtain ⟨q1,y1,rfl,-⟩:=h1.shape
 obtain ⟨q2,y2,rfl,-⟩:=h2.shape
 obtain ⟨q3,y3,rfl,-⟩:=h3.shape
 obtain ⟨o1,c1,rfl,-⟩:=hk.shape
 obtain ⟨o2,c2,rfl,-⟩:=hv.shape
 clear h1 h2 h3 hk hv hpf hkl hvl
 have HAS:=hid (fun wx (hx:Below w.heap.size w wx)=>Qhr c now cv N wx (hcv.below (hx.mono hN)) (Nat.le_trans hN hx.size) hcf)
 have HFI:=hid (fun wx (hx:Below w.heap.size w wx)=>Qke c height cv N wx (hcv.below (hx.mono hN)) (Nat.le_trans hN hx.size) hcf)
 have HCV:=hid hcv
 have HCF:=hid hcf
 obtain ⟨xv,rfl,hkn⟩:=hcv
 obtain ⟨oa,ca,rfl,hca⟩:=hkn.shape
 obtain ⟨w0,hw0⟩:∃ w0,(w.alloc (.cells #[.string c.chain,.int .i64 c.trust,.bool c.frozen,.slice oa c.known.length ca] 62)).alloc (.cells #[.int .i64 p.index,.int .i64 p.size,.slice q1 p.key.length y1,.slice q2 p.val.length y2,.slice q3 p.path.length y3] 42)=w0:=⟨_,rfl⟩
 have HB0:=hid (show Below w.heap.size w w0 by rw [← hw0];exact ((Below.refl _ _).alloc (Nat.le_refl _) _).alloc (by simp) _)
 have HR0:=hid (show Row w0 w.heap.size 62 [.string c.chain,.int .i64 c.trust,.bool c.frozen,.slice oa c.known.length ca] by rw [← hw0];exact (Row.new _ _ _).alloc _)
 have HP0:=hid (show Row w0 (w.heap.size+1) 42 [.int .i64 p.index,.int .i64 p.size,.slice q1 p.key.length y1,.slice q2 p.val.length y2,.slice q3 p.path.length y3] by rw [← hw0];exact Row.newAt _ _ _ _ (by simp))
 have HW0:=hid hw0
 obtain ⟨⟨a0,a1,a2,a3⟩,-⟩:=HR0.out.four
 clear hw0 hkn hcf hca htab
 go_enter Tryz.func22,Tryz.ntmps22
 go_wp2_with fail
 rw [HW0.out]
 refine (HAS.out _ HB0.out).mono ?_
 rintro e w1 ⟨rfl,hb1⟩
 have HB1:=hgo HB0 hb1
 have HR1:=rgo HR0 hb1
 have HP1:=rgo HP0 hb1
 clear hb1 a0 a1 a2 a3
 obtain ⟨⟨a0,a1,a2,a3⟩,-⟩:=HR1.out.four
 by_cases hask:Jh c now=0
 ·rw [hask]
  have HASK:=hid hask
  have HAC:=hid (show ∀ wx,Below w.heap.size w wx→Calls Tryz.prog 69 #[.agg #[.string c.chain,.int .i64 c.trust,.bool c.frozen,.slice oa c.known.length ca],.int .i64 now] wx _ from fun wx hx=>Qc3 c now _ N wx (HCV.out.below (hx.mono hN)) (Nat.le_trans hN hx.size) (QaK HASK.out).1 (QaK HASK.out).2.1)
  clear hask
  go_wp2_with fail
  refine (HFI.out _ HB1.out).mono ?_
  rintro e w2 ⟨hb2,p1,d1,p2,d2,rfl,hx1,hx2⟩
  have HB2:=hgo HB1 hb2
  have HR2:=rgo HR1 hb2
  have HP2:=rgo HP1 hb2
  clear hb2 a0 a1 a2 a3
  obtain ⟨⟨a0,a1,a2,a3⟩,-⟩:=HR2.out.four
  have m1:w.heap.size<w2.heap.size:=HR2.out.lt
  have m2:w.heap.size≠w2.heap.size:=by omega
  cases hat:atK c.known height with
  | none =>
   have HAT:=hid hat
   clear hat hx1 hx2
   simp only [Option.isSome]
   generalize Qbc c.known height=k at *
   go_wp2
   go_ret
   exact ⟨HB2.out.alloc HB2.out.size _,_,rfl,.inr (.inl ⟨HASK.out,HAT.out,rfl⟩)⟩
  | some k =>
   have HAT:=hid hat
   rw [Zs hat] at hx1
   rw [Zs hat]
   simp only [Option.isSome]
   obtain ⟨w3,hw3⟩:∃ w3,w2.alloc (.cells #[.int .i64 k.height,.int .i64 k.time,.slice p1 k.root.length d1,.slice p2 k.next.length d2] 125)=w3:=⟨_,rfl⟩
   have hb3:=bof hw3
   have HB3:=hgo HB2 hb3
   have HRK3:=hid (Q7 hw3)
   have HP3:=rgo HP2 hb3
   have HX1:=hid ((hx1.below hb3).mono hb3.size)
   have HKF:=hid (HCF.out.2.2 k (Qe3 hat).1)
   have HW3:=hid hw3
   clear hat hx1 hx2 hb3 hw3
   go_wp2_with fail
   rw [HW3.out]
   refine (HAC.out _ HB3.out).mono ?_
   rintro e w4 ⟨rfl,hb4⟩
   have HB4:=hgo HB3 hb4
   have HRK4:=rgo HRK3 hb4
   have HP4:=rgo HP3 hb4
   have HX4:=hid ((HX1.out.below hb4).mono hb4.size)
   clear hb4 a0 a1 a2 a3 m1 m2
   obtain ⟨⟨a0,a1,a2,a3⟩,-⟩:=HRK4.out.four
   obtain ⟨b0,b1,b2,b3,b4⟩:=Row.five HP4.out
   cases hac:QS c now with
   | false =>
    have HACT:=hid hac
    clear hac
    go_wp2
    go_ret
    exact ⟨HB4.out,_,rfl,.inr (.inr ⟨HASK.out,k,HAT.out,.inl ⟨HACT.out,rfl⟩⟩)⟩
   | true =>
    have HACT:=hid hac
    clear hac
    by_cases e1:p.key=key
    ·rw [decide_eq_true e1] at HE1
     have HQ1:=hid e1
     clear e1
     go_wp2_with fail
     refine (HE1.out _ HB4.out).mono ?_
     rintro e w5 ⟨rfl,hdr⟩
     have hb5:Below w4.heap.size w4 w5:=by obtain ⟨q,hq⟩:=hdr;rw [hq];exact QF _ _ _
     clear hdr
     have HB5:=hgo HB4 hb5
     have HRK5:=rgo HRK4 hb5
     have HP5:=rgo HP4 hb5
     have HX5:=hid ((HX4.out.below hb5).mono hb5.size)
     clear hb5 a0 a1 a2 a3 b0 b1 b2 b3 b4
     obtain ⟨⟨a0,a1,a2,a3⟩,-⟩:=HRK5.out.four
     obtain ⟨b0,b1,b2,b3,b4⟩:=Row.five HP5.out
     by_cases e2:p.val=val
     ·rw [decide_eq_true e2] at HE2
      have HQ2:=hid e2
      clear e2
      go_wp2_with fail
      refine (HE2.out _ HB5.out).mono ?_
      rintro e w6 ⟨rfl,hdr⟩
      have hb6:Below w5.heap.size w5 w6:=by obtain ⟨q,hq⟩:=hdr;rw [hq];exact QF _ _ _
      clear hdr
      have HB6:=hgo HB5 hb6
      have HRK6:=rgo HRK5 hb6
      have HP6:=rgo HP5 hb6
      have HX6:=hid ((HX5.out.below hb6).mono hb6.size)
      clear hb6 a0 a1 a2 a3 b0 b1 b2 b3 b4
      obtain ⟨⟨a0,a1,a2,a3⟩,-⟩:=HRK6.out.four
      obtain ⟨b0,b1,b2,b3,b4⟩:=Row.five HP6.out
      go_wp2_with fail
      refine (HSS.out w6 HB6.out k.root _ HX6.out HKF.out.1).mono ?_
      rintro e w9 ⟨hb9,bb,rfl,hbb⟩
      have HB9:=hgo HB6 hb9
      have HBB:=hid hbb
      clear hb9 hbb
      cases bb with
      | true =>
       go_wp2
       go_ret
       exact ⟨HB9.out,_,rfl,.inr (.inr ⟨HASK.out,k,HAT.out,.inr ⟨HACT.out,.inl ⟨⟨HQ1.out,HQ2.out,HBB.out.1 (by simp)⟩,rfl⟩⟩⟩)⟩
      | false =>
       go_wp2
       go_ret
       exact ⟨HB9.out,_,rfl,.inr (.inr ⟨HASK.out,k,HAT.out,.inr ⟨HACT.out,.inr ⟨fun h=>absurd (HBB.out.2 h.2.2) (by simp),rfl⟩⟩⟩)⟩
     ·rw [decide_eq_false e2] at HE2
      have HQ2:=hid e2
      clear e2
      go_wp2_with fail
      refine (HE2.out _ HB5.out).mono ?_
      rintro e w6 ⟨rfl,hdr⟩
      have hb6:Below w5.heap.size w5 w6:=by obtain ⟨q,hq⟩:=hdr;rw [hq];exact QF _ _ _
      clear hdr
      have HB6:=hgo HB5 hb6
      have HRK6:=rgo HRK5 hb6
      have HP6:=rgo HP5 hb6
      have HX6:=hid ((HX5.out.below hb6).mono hb6.size)
      clear hb6 a0 a1 a2 a3 b0 b1 b2 b3 b4
      obtain ⟨⟨a0,a1,a2,a3⟩,-⟩:=HRK6.out.four
      obtain ⟨b0,b1,b2,b3,b4⟩:=Row.five HP6.out
      go_wp2
      go_ret
      exact ⟨HB6.out,_,rfl,.inr (.inr ⟨HASK.out,k,HAT.out,.inr ⟨HACT.out,.inr ⟨fun h=>HQ2.out h.2.1,rfl⟩⟩⟩)⟩
    ·rw [decide_eq_false e1] at HE1
     have HQ1:=hid e1
     clear e1
     go_wp2_with fail
     refine (HE1.out _ HB4.out).mono ?_
     rintro e w5 ⟨rfl,hdr⟩
     have hb5:Below w4.heap.size w4 w5:=by obtain ⟨q,hq⟩:=hdr;rw [hq];exact QF _ _ _
     clear hdr
     have HB5:=hgo HB4 hb5
     have HRK5:=rgo HRK4 hb5
     have HP5:=rgo HP4 hb5
     have HX5:=hid ((HX4.out.below hb5).mono hb5.size)
     clear hb5 a0 a1 a2 a3 b0 b1 b2 b3 b4
     obtain ⟨⟨a0,a1,a2,a3⟩,-⟩:=HRK5.out.four
     obtain ⟨b0,b1,b2,b3,b4⟩:=Row.five HP5.out
     go_wp2
     go_ret
     exact ⟨HB5.out,_,rfl,.inr (.inr ⟨HASK.out,k,HAT.out,.inr ⟨HACT.out,.inr ⟨fun h=>HQ1.out h.1,rfl⟩⟩⟩)⟩
 ·have HASK:=hid hask
  have e1:(Jh c now != 0)=true:=by simpa using hask
  clear hask
  generalize hz:Jh c now=z at *
  have HZ:=hid hz
  clear hz
  go_wp2
  go_ret
  exact ⟨HB1.out,_,rfl,.inl ⟨by rw [HZ.out];exact HASK.out,HZ.out.symm⟩⟩
theorem Jt (q:Int) (hq:0≤q∧q≤1000000000000):(Jo QN [q.toNat]).length≤140737488351232:=by
 have h:=Zv 12 q.toNat (by omega)
 simp [Jo,QN]
 omega
theorem Jp (o:Cn) (ho:Qk o=0):(JA o).length≤140737488351232:=by
 have hok:=Jx ho
 have:=(QdR [o.state,o.client,o.oclient,o.oconn+1] (by simp) (fun n hn=>by simp at hn;omega)).2
 unfold JA
 omega
theorem Qjk {y0 y3 y4 y6 y7 A0 A1 A2 A3 A4 A5 A6 A7 A8 A9 Aa Ab Ac Ad Ae Af Ag:Value} {gs go gh N:Nat} (s:St) (x:Cl) (k n b f c1 ma:Nat) (ka o2 o3 o4 o5 o6 o7:Option Addr) (c2 c3 c4 c5 c6 c7:Nat) (h:Sh) (q z:Int) (o:Cn) (q1 q2 q3 r1 r2 r3 r4 r5 r6:Option Addr) (e1 e2 e3 s1 s2 s3 s4 s5 s6:Nat) {w:World} (hN:N≤w.heap.size) (hrs:Hid (Row w gs 28 [.string s.name,.int .i64 s.height,.int .i64 s.time,.slice (some ⟨b,f,none⟩) n c1,.slice o2 s.conns.length c2,.slice o3 s.chans.length c3,.slice o4 s.sent.length c4,.slice o5 s.got.length c5,.slice o6 s.acks.length c6,.slice o7 s.purses.length c7])) (_hlt:(k:Int)<(n:Int)) (hb1:b<w.heap.size) (hca:Hid (w.cell? ⟨b,f+k*4,none⟩=some (.string x.chain)∧w.cell? ⟨b,f+k*4+1,none⟩=some (.int .i64 x.trust)∧w.cell? ⟨b,f+k*4+2,none⟩=some (.bool x.frozen)∧w.cell? ⟨b,f+k*4+3,none⟩=some (.slice ka x.known.length ma))) (hcv:Hid (ClV w N (.agg #[.string x.chain,.int .i64 x.trust,.bool x.frozen,.slice ka x.known.length ma]) x)) (hrh:Hid (Row w gh 46 [.int .i64 h.height,.int .i64 h.prf.index,.int .i64 h.prf.size,.slice q1 h.prf.key.length e1,.slice q2 h.prf.val.length e2,.slice q3 h.prf.path.length e3,.bool h.gap.hasL,.bool h.gap.hasR,.int .i64 h.gap.left.index,.int .i64 h.gap.left.size,.slice r1 h.gap.left.key.length s1,.slice r2 h.gap.left.val.length s2,.slice r3 h.gap.left.path.length s3,.int .i64 h.gap.right.index,.int .i64 h.gap.right.size,.slice r4 h.gap.right.key.length s4,.slice r5 h.gap.right.val.length s5,.slice r6 h.gap.right.path.length s6])) (hpv:Hid (QaH w N (.agg #[.int .i64 h.prf.index,.int .i64 h.prf.size,.slice q1 h.prf.key.length e1,.slice q2 h.prf.val.length e2,.slice q3 h.prf.path.length e3]) h.prf)) (htab:Hid (Qt w)) (hcf:Hid x.fits) (hpf:Hid h.prf.fits) (hpow:Hid (YG w)) (hro:Hid (Row w go 58 [.int .i64 o.state,.int .i64 o.client,.int .i64 o.oclient,.int .i64 o.oconn])) (hq:0≤q∧q≤1000000000000) (ho:Hid (Qk o=0)) (hz:Hid (JU x s.time h.height (fun r=>h.prf.key=Jo QN [q.toNat]∧h.prf.val=JA o∧YW r h.prf) z)) (hkl:(Jo QN [q.toNat]).length≤140737488351232) (hvl:(JA o).length≤140737488351232) (Q:Exit→Act→World→Prop)
  (hQ:Hid (∀ (σ:Nat→Value) (w':World),Below w.heap.size w w'→/-16-/ σ 16=.int .i64 z→Q .normal ⟨#[y0,.int .i64 (k:Int),.int .i64 q,y3,y4,.pointer (some ⟨gs,0,none⟩),y6,y7,.pointer (some ⟨go,0,none⟩),.pointer (some ⟨gh,0,none⟩),σ 16,σ 0,σ 1,σ 2,σ 3,σ 4,σ 5,σ 6,σ 7,σ 8,σ 9,σ 10,σ 11,σ 12,σ 13,σ 14,σ 15],[]⟩ w')) :
  Code.wp Tryz.prog (.region 1 ((Tryz.f63.body.bind (Ja 1)).getD #[]) true) Q ⟨#[y0,.int .i64 (k:Int),.int .i64 q,y3,y4,.pointer (some ⟨gs,0,none⟩),y6,y7,.pointer (some ⟨go,0,none⟩),.pointer (some ⟨gh,0,none⟩),A0,A1,A2,A3,A4,A5,A6,A7,A8,A9,Aa,Ab,Ac,Ad,Ae,Af,Ag],[]⟩ w:=by
 conv=>arg 2;arg 2;whnf
 conv=>arg 4;dsimp only
 refine Q6 (by kernel_rfl) (fun σ=>#[y0,.int .i64 (k:Int),.int .i64 q,y3,y4,.pointer (some ⟨gs,0,none⟩),y6,y7,.pointer (some ⟨go,0,none⟩),.pointer (some ⟨gh,0,none⟩),σ 16,σ 0,σ 1,σ 2,σ 3,σ 4,σ 5,σ 6,σ 7,σ 8,σ 9,σ 10,σ 11,σ 12,σ 13,σ 14,σ 15]) (fun i=>([A1,A2,A3,A4,A5,A6,A7,A8,A9,Aa,Ab,Ac,Ad,Ae,Af,Ag,A0]:List Value).getD i undef) rfl (fun i X W=>match i with
  | 0=>X=.pointer (some ⟨gs,3,none⟩)
  | 1=>X=.slice (some ⟨b,f,none⟩) n c1
  | 2=>X=.int .i64 (k:Int)
  | 3=>X=.pointer (some ⟨b,f+k*4,none⟩)
  | 4=>X=.agg #[.string x.chain,.int .i64 x.trust,.bool x.frozen,.slice ka x.known.length ma]
  | 5=>X=.pointer (some ⟨gs,2,none⟩)
  | 6=>X=.int .i64 s.time
  | 7=>X=.pointer (some ⟨gh,0,none⟩)
  | 8=>X=.int .i64 h.height
  | 9=>X=.int .i64 q
  | 10=>Jc W w.heap.size X (Jo QN [q.toNat])
  | 11=>X=.agg #[.int .i64 o.state,.int .i64 o.client,.int .i64 o.oclient,.int .i64 o.oconn]
  | 12=>Jc W w.heap.size X (JA o)
  | 13=>X=.pointer (some ⟨gh,1,none⟩)
  | 14=>X=.agg #[.int .i64 h.prf.index,.int .i64 h.prf.size,.slice q1 h.prf.key.length e1,.slice q2 h.prf.val.length e2,.slice q3 h.prf.path.length e3]
  | 15=>X=.int .i64 z
  | 16=>X=.int .i64 z
  | _=>True) ?_ (by kernel_rfl) ?_ ?_
 ·intro i X W W' HB H
  match i,H with
  | 0,H=>exact H
  | 1,H=>exact H
  | 2,H=>exact H
  | 3,H=>exact H
  | 4,H=>exact H
  | 5,H=>exact H
  | 6,H=>exact H
  | 7,H=>exact H
  | 8,H=>exact H
  | 9,H=>exact H
  | 10,H=>exact (H.below HB)
  | 11,H=>exact H
  | 12,H=>exact (H.below HB)
  | 13,H=>exact H
  | 14,H=>exact H
  | 15,H=>exact H
  | 16,H=>exact H
  | _+17,_=>exact trivial
 ·refine ⟨?_,?_,?_,?_,?_,?_,?_,?_,?_,?_,?_,?_,?_,?_,?_,?_,?_,trivial⟩
  ·
   intro σ W HJ hdep
   simp [Region.binds] at hdep
   have HJ:=hid HJ
   refine Qa rfl rfl ?_
   go_simp
   exact Qo.mk0 (.pointer (some ⟨gs,3,none⟩)) (by first | rfl | simp [Qh, *]) HJ.out rfl
  ·
   intro σ W HJ hdep
   simp [Region.binds] at hdep
   have HJ:=hid HJ
   have kc:=(rg hrs HJ).cell 3
   simp at kc
   refine Qa rfl rfl ?_
   go_simp
   exact Qo.mk0 (.slice (some ⟨b,f,none⟩) n c1) (by first | rfl | simp [Qh, *]) HJ.out rfl
  ·
   intro σ W HJ hdep
   simp [Region.binds] at hdep
   have HJ:=hid HJ
   refine Qa rfl rfl ?_
   go_simp
   exact Qo.mk0 (.int .i64 (k:Int)) (by first | rfl | simp [Qh, *]) HJ.out rfl
  ·
   intro σ W HJ hdep
   simp [Region.binds] at hdep
   have HJ:=hid HJ
   refine Qa rfl rfl ?_
   go_simp
   exact Qo.mk0 (.pointer (some ⟨b,f+k*4,none⟩)) (by first | rfl | simp [Qh, *]) HJ.out rfl
  ·
   intro σ W HJ hdep
   simp [Region.binds] at hdep
   have HJ:=hid HJ
   have x0:=(HJ.out.cell (p:=⟨b,f+k*4,none⟩) hb1).trans hca.out.1
   have x1:=(HJ.out.cell (p:=⟨b,f+k*4+1,none⟩) hb1).trans hca.out.2.1
   have x2:=(HJ.out.cell (p:=⟨b,f+k*4+2,none⟩) hb1).trans hca.out.2.2.1
   have x3:=(HJ.out.cell (p:=⟨b,f+k*4+3,none⟩) hb1).trans hca.out.2.2.2
   refine Qa rfl rfl ?_
   go_simp
   exact Qo.mk0 (.agg #[.string x.chain,.int .i64 x.trust,.bool x.frozen,.slice ka x.known.length ma]) (by first | rfl | simp [Qh, *]) HJ.out rfl
  ·
   intro σ W HJ hdep
   simp [Region.binds] at hdep
   have HJ:=hid HJ
   refine Qa rfl rfl ?_
   go_simp
   exact Qo.mk0 (.pointer (some ⟨gs,2,none⟩)) (by first | rfl | simp [Qh, *]) HJ.out rfl
  ·
   intro σ W HJ hdep
   simp [Region.binds] at hdep
   have HJ:=hid HJ
   have kc:=(rg hrs HJ).cell 2
   simp at kc
   refine Qa rfl rfl ?_
   go_simp
   exact Qo.mk0 (.int .i64 s.time) (by first | rfl | simp [Qh, *]) HJ.out rfl
  ·
   intro σ W HJ hdep
   simp [Region.binds] at hdep
   have HJ:=hid HJ
   refine Qa rfl rfl ?_
   go_simp
   exact Qo.mk0 (.pointer (some ⟨gh,0,none⟩)) (by first | rfl | simp [Qh, *]) HJ.out rfl
  ·
   intro σ W HJ hdep
   simp [Region.binds] at hdep
   have HJ:=hid HJ
   have kc:=(rg hrh HJ).cell 0
   simp at kc
   refine Qa rfl rfl ?_
   go_simp
   exact Qo.mk0 (.int .i64 h.height) (by first | rfl | simp [Qh, *]) HJ.out rfl
  ·
   intro σ W HJ hdep
   simp [Region.binds] at hdep
   have HJ:=hid HJ
   refine Qa rfl rfl ?_
   go_simp
   exact Qo.mk0 (.int .i64 q) (by first | rfl | simp [Qh, *]) HJ.out rfl
  ·
   intro σ W HJ hdep
   simp [Region.binds] at hdep
   have HJ:=hid HJ
   have HC:=hid (QeP q hq W (hpow.out.below HJ.out))
   refine Qa rfl rfl ?_
   go_simp
   refine HC.out.mono ?_
   rintro e w2 ⟨v,rfl,hown,hb2⟩
   exact Qo.mk v (by first | rfl | simp [Qh, *]) hb2 HJ.out (hown.mono HJ.out.size)
  ·
   intro σ W HJ hdep
   simp [Region.binds] at hdep
   have HJ:=hid HJ
   have k0:=(rg hro HJ).cell 0
   have k1:=(rg hro HJ).cell 1
   have k2:=(rg hro HJ).cell 2
   have k3:=(rg hro HJ).cell 3
   simp at k0
   simp at k1
   simp at k2
   simp at k3
   refine Qa rfl rfl ?_
   go_simp
   exact Qo.mk0 (.agg #[.int .i64 o.state,.int .i64 o.client,.int .i64 o.oclient,.int .i64 o.oconn]) (by first | rfl | simp [Qh, *]) HJ.out rfl
  ·
   intro σ W HJ hdep
   simp [Region.binds] at hdep
   have HJ:=hid HJ
   have HC:=hid (QeF o ho.out W)
   refine Qa rfl rfl ?_
   go_simp
   refine HC.out.mono ?_
   rintro e w2 ⟨v,rfl,hown,hb2⟩
   exact Qo.mk v (by first | rfl | simp [Qh, *]) hb2 HJ.out (hown.mono HJ.out.size)
  ·
   intro σ W HJ hdep
   simp [Region.binds] at hdep
   have HJ:=hid HJ
   refine Qa rfl rfl ?_
   go_simp
   exact Qo.mk0 (.pointer (some ⟨gh,1,none⟩)) (by first | rfl | simp [Qh, *]) HJ.out rfl
  ·
   intro σ W HJ hdep
   simp [Region.binds] at hdep
   have HJ:=hid HJ
   have k1:=(rg hrh HJ).cell 1
   have k2:=(rg hrh HJ).cell 2
   have k3:=(rg hrh HJ).cell 3
   have k4:=(rg hrh HJ).cell 4
   have k5:=(rg hrh HJ).cell 5
   simp at k1
   simp at k2
   simp at k3
   simp at k4
   simp at k5
   refine Qa rfl rfl ?_
   go_simp
   exact Qo.mk0 (.agg #[.int .i64 h.prf.index,.int .i64 h.prf.size,.slice q1 h.prf.key.length e1,.slice q2 h.prf.val.length e2,.slice q3 h.prf.path.length e3]) (by first | rfl | simp [Qh, *]) HJ.out rfl
  ·
   intro σ W HJ hdep
   simp [Region.binds] at hdep
   have HJ:=hid HJ
   have hkk:Bytes W W.heap.size (σ 10) (Jo QN [q.toNat]):=by first | exact hdep.2.2.2.1.bytes | exact hdep.1.bytes | exact hdep.2.1.bytes | exact hdep.2.2.1.bytes
   have hvv:Bytes W W.heap.size (σ 12) (JA o):=by first | exact hdep.2.2.2.2.1.bytes | exact hdep.2.1.bytes | exact hdep.2.2.2.1.bytes
   have d4:=hdep.1
   have d6:=hdep.2.1
   have d8:=hdep.2.2.1
   have d14:=hdep.2.2.2.2.2
   have HC:=hid (QaN.z QjD x s.time h.height (Jo QN [q.toNat]) (JA o) h.prf (.agg #[.string x.chain,.int .i64 x.trust,.bool x.frozen,.slice ka x.known.length ma]) (σ 10) (σ 12) (.agg #[.int .i64 h.prf.index,.int .i64 h.prf.size,.slice q1 h.prf.key.length e1,.slice q2 h.prf.val.length e2,.slice q3 h.prf.path.length e3]) W.heap.size W (htab.out.past HJ.out) (Nat.le_refl _) ((hcv.out.below (HJ.out.mono hN)).mono (Nat.le_trans hN HJ.out.size)) hkk hvv ((hpv.out.below (HJ.out.mono hN)).mono (Nat.le_trans hN HJ.out.size)) hcf.out hkl hvl hpf.out hz.out)
   clear hdep hkk hvv
   refine Qa rfl rfl ?_
   go_simp
   refine (HC.out).mono ?_
   rintro e w2 ⟨rfl,hb2⟩
   exact Qo.mk (.int .i64 z) (by first | rfl | simp [Qh, *]) hb2 HJ.out rfl
  ·
   intro σ W HJ hdep
   simp [Region.binds] at hdep
   have HJ:=hid HJ
   refine Qa rfl rfl ?_
   go_simp
   exact Qo.mk0 (.int .i64 z) (by first | rfl | simp [Qh, *]) HJ.out rfl
 ·intro σ w' hb hg
  exact hQ.out σ w' hb (by first | exact ⟨hg 16 (by decide)⟩ | exact hg 16 (by decide))
theorem Qkc {y0 y4 y6 y7 y8 A0 A1 A2 A3 A4 A5 A6 A7 A8 A9 Aa Ab Ac Ad Ae:Value} {gs gh N:Nat} (s:St) (x:Cl) (k n b f c1 ma:Nat) (ka o2 o3 o4 o5 o6 o7:Option Addr) (c2 c3 c4 c5 c6 c7:Nat) (h:Sh) (z:Int) (key val:List (BitVec 8)) (kv vv:Value) (q1 q2 q3 r1 r2 r3 r4 r5 r6:Option Addr) (e1 e2 e3 s1 s2 s3 s4 s5 s6:Nat) {w:World} (hN:N≤w.heap.size) (hrs:Hid (Row w gs 28 [.string s.name,.int .i64 s.height,.int .i64 s.time,.slice (some ⟨b,f,none⟩) n c1,.slice o2 s.conns.length c2,.slice o3 s.chans.length c3,.slice o4 s.sent.length c4,.slice o5 s.got.length c5,.slice o6 s.acks.length c6,.slice o7 s.purses.length c7])) (_hlt:(k:Int)<(n:Int)) (hb1:b<w.heap.size) (hca:Hid (w.cell? ⟨b,f+k*4,none⟩=some (.string x.chain)∧w.cell? ⟨b,f+k*4+1,none⟩=some (.int .i64 x.trust)∧w.cell? ⟨b,f+k*4+2,none⟩=some (.bool x.frozen)∧w.cell? ⟨b,f+k*4+3,none⟩=some (.slice ka x.known.length ma))) (hcv:Hid (ClV w N (.agg #[.string x.chain,.int .i64 x.trust,.bool x.frozen,.slice ka x.known.length ma]) x)) (hrh:Hid (Row w gh 46 [.int .i64 h.height,.int .i64 h.prf.index,.int .i64 h.prf.size,.slice q1 h.prf.key.length e1,.slice q2 h.prf.val.length e2,.slice q3 h.prf.path.length e3,.bool h.gap.hasL,.bool h.gap.hasR,.int .i64 h.gap.left.index,.int .i64 h.gap.left.size,.slice r1 h.gap.left.key.length s1,.slice r2 h.gap.left.val.length s2,.slice r3 h.gap.left.path.length s3,.int .i64 h.gap.right.index,.int .i64 h.gap.right.size,.slice r4 h.gap.right.key.length s4,.slice r5 h.gap.right.val.length s5,.slice r6 h.gap.right.path.length s6])) (hpv:Hid (QaH w N (.agg #[.int .i64 h.prf.index,.int .i64 h.prf.size,.slice q1 h.prf.key.length e1,.slice q2 h.prf.val.length e2,.slice q3 h.prf.path.length e3]) h.prf)) (htab:Hid (Qt w)) (hcf:Hid x.fits) (hpf:Hid h.prf.fits) (hkv:Hid (Bytes w N kv key)) (hvl2:Hid (Bytes w N vv val)) (hz:Hid (JU x s.time h.height (fun r=>h.prf.key=key∧h.prf.val=val∧YW r h.prf) z)) (hkl:(key).length≤140737488351232) (hvl:(val).length≤140737488351232) (Q:Exit→Act→World→Prop)
  (hQ:Hid (∀ (σ:Nat→Value) (w':World),Below w.heap.size w w'→/-14-/ σ 14=.int .i64 z→Q .normal ⟨#[y0,.int .i64 (k:Int),kv,vv,y4,.pointer (some ⟨gs,0,none⟩),y6,y7,y8,.pointer (some ⟨gh,0,none⟩),σ 14,σ 0,σ 1,σ 2,σ 3,σ 4,σ 5,σ 6,σ 7,σ 8,σ 9,σ 10,σ 11,σ 12,σ 13],[]⟩ w')) :
  Code.wp Tryz.prog (.region 1 ((Tryz.f59.body.bind (Ja 1)).getD #[]) true) Q ⟨#[y0,.int .i64 (k:Int),kv,vv,y4,.pointer (some ⟨gs,0,none⟩),y6,y7,y8,.pointer (some ⟨gh,0,none⟩),A0,A1,A2,A3,A4,A5,A6,A7,A8,A9,Aa,Ab,Ac,Ad,Ae],[]⟩ w:=by
 conv=>arg 2;arg 2;whnf
 conv=>arg 4;dsimp only
 refine Q6 (by kernel_rfl) (fun σ=>#[y0,.int .i64 (k:Int),kv,vv,y4,.pointer (some ⟨gs,0,none⟩),y6,y7,y8,.pointer (some ⟨gh,0,none⟩),σ 14,σ 0,σ 1,σ 2,σ 3,σ 4,σ 5,σ 6,σ 7,σ 8,σ 9,σ 10,σ 11,σ 12,σ 13]) (fun i=>([A1,A2,A3,A4,A5,A6,A7,A8,A9,Aa,Ab,Ac,Ad,Ae,A0]:List Value).getD i undef) rfl (fun i X W=>match i with
  | 0=>X=.pointer (some ⟨gs,3,none⟩)
  | 1=>X=.slice (some ⟨b,f,none⟩) n c1
  | 2=>X=.int .i64 (k:Int)
  | 3=>X=.pointer (some ⟨b,f+k*4,none⟩)
  | 4=>X=.agg #[.string x.chain,.int .i64 x.trust,.bool x.frozen,.slice ka x.known.length ma]
  | 5=>X=.pointer (some ⟨gs,2,none⟩)
  | 6=>X=.int .i64 s.time
  | 7=>X=.pointer (some ⟨gh,0,none⟩)
  | 8=>X=.int .i64 h.height
  | 9=>X=kv
  | 10=>X=vv
  | 11=>X=.pointer (some ⟨gh,1,none⟩)
  | 12=>X=.agg #[.int .i64 h.prf.index,.int .i64 h.prf.size,.slice q1 h.prf.key.length e1,.slice q2 h.prf.val.length e2,.slice q3 h.prf.path.length e3]
  | 13=>X=.int .i64 z
  | 14=>X=.int .i64 z
  | _=>True) ?_ (by kernel_rfl) ?_ ?_
 ·intro i X W W' HB H
  match i,H with
  | 0,H=>exact H
  | 1,H=>exact H
  | 2,H=>exact H
  | 3,H=>exact H
  | 4,H=>exact H
  | 5,H=>exact H
  | 6,H=>exact H
  | 7,H=>exact H
  | 8,H=>exact H
  | 9,H=>exact H
  | 10,H=>exact H
  | 11,H=>exact H
  | 12,H=>exact H
  | 13,H=>exact H
  | 14,H=>exact H
  | _+15,_=>exact trivial
 ·refine ⟨?_,?_,?_,?_,?_,?_,?_,?_,?_,?_,?_,?_,?_,?_,?_,trivial⟩
  ·
   intro σ W HJ hdep
   simp [Region.binds] at hdep
   have HJ:=hid HJ
   refine Qa rfl rfl ?_
   go_simp
   exact Qo.mk0 (.pointer (some ⟨gs,3,none⟩)) (by first | rfl | simp [Qh, *]) HJ.out rfl
  ·
   intro σ W HJ hdep
   simp [Region.binds] at hdep
   have HJ:=hid HJ
   have kc:=(rg hrs HJ).cell 3
   simp at kc
   refine Qa rfl rfl ?_
   go_simp
   exact Qo.mk0 (.slice (some ⟨b,f,none⟩) n c1) (by first | rfl | simp [Qh, *]) HJ.out rfl
  ·
   intro σ W HJ hdep
   simp [Region.binds] at hdep
   have HJ:=hid HJ
   refine Qa rfl rfl ?_
   go_simp
   exact Qo.mk0 (.int .i64 (k:Int)) (by first | rfl | simp [Qh, *]) HJ.out rfl
  ·
   intro σ W HJ hdep
   simp [Region.binds] at hdep
   have HJ:=hid HJ
   refine Qa rfl rfl ?_
   go_simp
   exact Qo.mk0 (.pointer (some ⟨b,f+k*4,none⟩)) (by first | rfl | simp [Qh, *]) HJ.out rfl
  ·
   intro σ W HJ hdep
   simp [Region.binds] at hdep
   have HJ:=hid HJ
   have x0:=(HJ.out.cell (p:=⟨b,f+k*4,none⟩) hb1).trans hca.out.1
   have x1:=(HJ.out.cell (p:=⟨b,f+k*4+1,none⟩) hb1).trans hca.out.2.1
   have x2:=(HJ.out.cell (p:=⟨b,f+k*4+2,none⟩) hb1).trans hca.out.2.2.1
   have x3:=(HJ.out.cell (p:=⟨b,f+k*4+3,none⟩) hb1).trans hca.out.2.2.2
   refine Qa rfl rfl ?_
   go_simp
   exact Qo.mk0 (.agg #[.string x.chain,.int .i64 x.trust,.bool x.frozen,.slice ka x.known.length ma]) (by first | rfl | simp [Qh, *]) HJ.out rfl
  ·
   intro σ W HJ hdep
   simp [Region.binds] at hdep
   have HJ:=hid HJ
   refine Qa rfl rfl ?_
   go_simp
   exact Qo.mk0 (.pointer (some ⟨gs,2,none⟩)) (by first | rfl | simp [Qh, *]) HJ.out rfl
  ·
   intro σ W HJ hdep
   simp [Region.binds] at hdep
   have HJ:=hid HJ
   have kc:=(rg hrs HJ).cell 2
   simp at kc
   refine Qa rfl rfl ?_
   go_simp
   exact Qo.mk0 (.int .i64 s.time) (by first | rfl | simp [Qh, *]) HJ.out rfl
  ·
   intro σ W HJ hdep
   simp [Region.binds] at hdep
   have HJ:=hid HJ
   refine Qa rfl rfl ?_
   go_simp
   exact Qo.mk0 (.pointer (some ⟨gh,0,none⟩)) (by first | rfl | simp [Qh, *]) HJ.out rfl
  ·
   intro σ W HJ hdep
   simp [Region.binds] at hdep
   have HJ:=hid HJ
   have kc:=(rg hrh HJ).cell 0
   simp at kc
   refine Qa rfl rfl ?_
   go_simp
   exact Qo.mk0 (.int .i64 h.height) (by first | rfl | simp [Qh, *]) HJ.out rfl
  ·
   intro σ W HJ hdep
   simp [Region.binds] at hdep
   have HJ:=hid HJ
   refine Qa rfl rfl ?_
   go_simp
   exact Qo.mk0 (kv) (by first | rfl | simp [Qh, *]) HJ.out rfl
  ·
   intro σ W HJ hdep
   simp [Region.binds] at hdep
   have HJ:=hid HJ
   refine Qa rfl rfl ?_
   go_simp
   exact Qo.mk0 (vv) (by first | rfl | simp [Qh, *]) HJ.out rfl
  ·
   intro σ W HJ hdep
   simp [Region.binds] at hdep
   have HJ:=hid HJ
   refine Qa rfl rfl ?_
   go_simp
   exact Qo.mk0 (.pointer (some ⟨gh,1,none⟩)) (by first | rfl | simp [Qh, *]) HJ.out rfl
  ·
   intro σ W HJ hdep
   simp [Region.binds] at hdep
   have HJ:=hid HJ
   have k1:=(rg hrh HJ).cell 1
   have k2:=(rg hrh HJ).cell 2
   have k3:=(rg hrh HJ).cell 3
   have k4:=(rg hrh HJ).cell 4
   have k5:=(rg hrh HJ).cell 5
   simp at k1
   simp at k2
   simp at k3
   simp at k4
   simp at k5
   refine Qa rfl rfl ?_
   go_simp
   exact Qo.mk0 (.agg #[.int .i64 h.prf.index,.int .i64 h.prf.size,.slice q1 h.prf.key.length e1,.slice q2 h.prf.val.length e2,.slice q3 h.prf.path.length e3]) (by first | rfl | simp [Qh, *]) HJ.out rfl
  ·
   intro σ W HJ hdep
   simp [Region.binds] at hdep
   have HJ:=hid HJ
   have hkk:=(hkv.out.below (HJ.out.mono hN)).mono (Nat.le_trans hN HJ.out.size)
   have hvv:=(hvl2.out.below (HJ.out.mono hN)).mono (Nat.le_trans hN HJ.out.size)
   have HC:=hid (QaN.z Qge x s.time h.height (key) (val) h.prf (.agg #[.string x.chain,.int .i64 x.trust,.bool x.frozen,.slice ka x.known.length ma]) kv vv (.agg #[.int .i64 h.prf.index,.int .i64 h.prf.size,.slice q1 h.prf.key.length e1,.slice q2 h.prf.val.length e2,.slice q3 h.prf.path.length e3]) W.heap.size W (htab.out.past HJ.out) (Nat.le_refl _) ((hcv.out.below (HJ.out.mono hN)).mono (Nat.le_trans hN HJ.out.size)) hkk hvv ((hpv.out.below (HJ.out.mono hN)).mono (Nat.le_trans hN HJ.out.size)) hcf.out hkl hvl hpf.out hz.out)
   clear hkk hvv
   refine Qa rfl rfl ?_
   go_simp
   refine (HC.out).mono ?_
   rintro e w2 ⟨rfl,hb2⟩
   exact Qo.mk (.int .i64 z) (by first | rfl | simp [Qh, *]) hb2 HJ.out rfl
  ·
   intro σ W HJ hdep
   simp [Region.binds] at hdep
   have HJ:=hid HJ
   refine Qa rfl rfl ?_
   go_simp
   exact Qo.mk0 (.int .i64 z) (by first | rfl | simp [Qh, *]) HJ.out rfl
 ·intro σ w' hb hg
  exact hQ.out σ w' hb (by first | exact ⟨hg 14 (by decide)⟩ | exact hg 14 (by decide))
theorem QgF (s:St) (v hv2:Value) (N:Nat) (w:World) (c q z:Int) (o:Cn) (h:Sh) (hv:StV w N v s) (hh:ShV w N hv2 h) (hN:N≤w.heap.size) (hfit:s.fits) (hhf:h.fits) (htab:Qt w) (hpow:YG w) (hc:0≤c∧c<(s.clients.length:Int)) (hq:0≤q∧q≤1000000000000) (ho:Qk o=0) (hz:QZ s c h (Jo QN [q.toNat]) (JA o) z) :
  Calls Tryz.prog 63 #[v,.int .i64 c,.int .i64 q,.agg #[.int .i64 o.state,.int .i64 o.client,.int .i64 o.oclient,.int .i64 o.oconn],hv2] w fun e w'=>e=.returned (.int .i64 z)∧Below w.heap.size w w':=by
 obtain ⟨o1,c1,o2,c2,o3,c3,o4,c4,o5,c5,o6,c6,o7,c7,rfl,hm⟩:=hv.open
 obtain ⟨q1,e1,q2,e2,q3,e3,r1,s1,r2,s2,r3,s3,r4,s4,r5,s5,r6,s6,rfl,hpv⟩:=hh.open
 obtain ⟨k,rfl⟩:∃ k:Nat,c=(k:Int):=⟨c.toNat,by omega⟩
 have hlt:k<s.clients.length:=by omega
 have hlt':(k:Int)<(s.clients.length:Int):=by omega
 obtain ⟨x,hx⟩:∃ x,s.clients[k]?=some x:=⟨_,List.getElem?_eq_getElem hlt⟩
 have HZ:=hid (show JU x s.time h.height _ z by have:=hz;unfold QZ at this;rw [QbG hx] at this;exact this)
 obtain ⟨w0,hw0⟩:∃ w0,((w.alloc (.cells #[.string s.name,.int .i64 s.height,.int .i64 s.time,.slice o1 s.clients.length c1,.slice o2 s.conns.length c2,.slice o3 s.chans.length c3,.slice o4 s.sent.length c4,.slice o5 s.got.length c5,.slice o6 s.acks.length c6,.slice o7 s.purses.length c7] 28)).alloc (.cells #[.int .i64 o.state,.int .i64 o.client,.int .i64 o.oclient,.int .i64 o.oconn] 58)).alloc (.cells #[.int .i64 h.height,.int .i64 h.prf.index,.int .i64 h.prf.size,.slice q1 h.prf.key.length e1,.slice q2 h.prf.val.length e2,.slice q3 h.prf.path.length e3,.bool h.gap.hasL,.bool h.gap.hasR,.int .i64 h.gap.left.index,.int .i64 h.gap.left.size,.slice r1 h.gap.left.key.length s1,.slice r2 h.gap.left.val.length s2,.slice r3 h.gap.left.path.length s3,.int .i64 h.gap.right.index,.int .i64 h.gap.right.size,.slice r4 h.gap.right.key.length s4,.slice r5 h.gap.right.val.length s5,.slice r6 h.gap.right.path.length s6] 46)=w0:=⟨_,rfl⟩
 have hb0:Below w.heap.size w w0:=by rw [← hw0];exact (((Below.refl _ _).alloc (Nat.le_refl _) _).alloc (by simp) _).alloc (by simp;omega) _
 have HB0:=hid hb0
 have HR0:=hid (show Row w0 (w.heap.size) 28 [.string s.name,.int .i64 s.height,.int .i64 s.time,.slice o1 s.clients.length c1,.slice o2 s.conns.length c2,.slice o3 s.chans.length c3,.slice o4 s.sent.length c4,.slice o5 s.got.length c5,.slice o6 s.acks.length c6,.slice o7 s.purses.length c7] by rw [← hw0];exact (((Row.new _ _ _).alloc _).alloc _))
 have HR1:=hid (show Row w0 (w.heap.size+1) 58 [.int .i64 o.state,.int .i64 o.client,.int .i64 o.oclient,.int .i64 o.oconn] by rw [← hw0];exact ((Row.newAt _ _ _ _ (by simp)).alloc _))
 have HR2:=hid (show Row w0 (w.heap.size+2) 46 [.int .i64 h.height,.int .i64 h.prf.index,.int .i64 h.prf.size,.slice q1 h.prf.key.length e1,.slice q2 h.prf.val.length e2,.slice q3 h.prf.path.length e3,.bool h.gap.hasL,.bool h.gap.hasR,.int .i64 h.gap.left.index,.int .i64 h.gap.left.size,.slice r1 h.gap.left.key.length s1,.slice r2 h.gap.left.val.length s2,.slice r3 h.gap.left.path.length s3,.int .i64 h.gap.right.index,.int .i64 h.gap.right.size,.slice r4 h.gap.right.key.length s4,.slice r5 h.gap.right.val.length s5,.slice r6 h.gap.right.path.length s6] by rw [← hw0];exact (Row.newAt _ _ _ _ (by simp)))
 obtain ⟨b,f,rfl,gx⟩:=(hm.below (hb0.mono hN)).clients.spot (by omega)
 obtain ⟨hbN,r,hr,cx⟩:=gx k x hx
 obtain ⟨kc,rfl,hkc⟩:=hr
 obtain ⟨ka,ma,rfl,-⟩:=hkc.shape
 have x0:=cx 0 _ rfl
 have x1:=cx 1 _ rfl
 have x2:=cx 2 _ rfl
 have x3:=cx 3 _ rfl
 simp only [Nat.add_zero] at x0
 have HCA:=hid (show w0.cell? ⟨b,f+k*4,none⟩=some (.string x.chain)∧w0.cell? ⟨b,f+k*4+1,none⟩=some (.int .i64 x.trust)∧w0.cell? ⟨b,f+k*4+2,none⟩=some (.bool x.frozen)∧w0.cell? ⟨b,f+k*4+3,none⟩=some (.slice ka x.known.length ma) from ⟨x0,x1,x2,x3⟩)
 have HCV:=hid (show ClV w0 N (.agg #[.string x.chain,.int .i64 x.trust,.bool x.frozen,.slice ka x.known.length ma]) x from ⟨_,rfl,hkc⟩)
 have HXF:=hid (hfit.2.1.2 x (List.mem_of_getElem? hx))
 have HPV:=hid (hpv.below (hb0.mono hN))
 have HPF:=hid hhf.1
 have HTAB:=hid (htab.past hb0)
 have hbl:b<w0.heap.size:=Nat.lt_of_lt_of_le hbN (Nat.le_trans hN hb0.size)
 have hN0:N≤w0.heap.size:=Nat.le_trans hN hb0.size
 have HPOW:=hid (hpow.below hb0)
 have HO:=hid ho
 have hkl:=Jt q hq
 have hvl:=Jp o ho
 have HW0:=hid hw0
 clear hv hm hw0 gx cx hx hkc x0 x1 x2 x3 hpv hh htab hfit hhf hz hpow ho hb0
 go_enter Tryz.func63,Tryz.ntmps63
 go_upto_region 1 with fail
 rw [HW0.out]
 refine Qjk s x k s.clients.length b f c1 ma ka o2 o3 o4 o5 o6 o7 c2 c3 c4 c5 c6 c7 h q z o q1 q2 q3 r1 r2 r3 r4 r5 r6 e1 e2 e3 s1 s2 s3 s4 s5 s6 hN0 HR0 hlt' hbl HCA HCV HR2 HPV HTAB HXF HPF HPOW HR1 hq HO HZ hkl hvl _ (hid ?_)
 intro σ w1 hb1 ea
 have HB1:=hgo HB0 hb1
 rw [ea]
 clear hb1 ea
 go_wp2
 go_ret
 exact ⟨rfl,HB1.out⟩
theorem Qhg (s:St) (v hv2 kv vv:Value) (N:Nat) (w:World) (c z:Int) (key val:List (BitVec 8)) (h:Sh) (hv:StV w N v s) (hh:ShV w N hv2 h) (hk:Bytes w N kv key) (hvl2:Bytes w N vv val) (hN:N≤w.heap.size) (hfit:s.fits) (hhf:h.fits) (htab:Qt w) (hc:0≤c∧c<(s.clients.length:Int)) (hkl:key.length≤140737488351232) (hvl:val.length≤140737488351232) (hz:QZ s c h key val z) :
  Calls Tryz.prog 59 #[v,.int .i64 c,kv,vv,hv2] w fun e w'=>e=.returned (.int .i64 z)∧Below w.heap.size w w':=by
 obtain ⟨o1,c1,o2,c2,o3,c3,o4,c4,o5,c5,o6,c6,o7,c7,rfl,hm⟩:=hv.open
 obtain ⟨q1,e1,q2,e2,q3,e3,r1,s1,r2,s2,r3,s3,r4,s4,r5,s5,r6,s6,rfl,hpv⟩:=hh.open
 obtain ⟨k,rfl⟩:∃ k:Nat,c=(k:Int):=⟨c.toNat,by omega⟩
 have hlt:k<s.clients.length:=by omega
 have hlt':(k:Int)<(s.clients.length:Int):=by omega
 obtain ⟨x,hx⟩:∃ x,s.clients[k]?=some x:=⟨_,List.getElem?_eq_getElem hlt⟩
 have HZ:=hid (show JU x s.time h.height _ z by have:=hz;unfold QZ at this;rw [QbG hx] at this;exact this)
 obtain ⟨w0,hw0⟩:∃ w0,(w.alloc (.cells #[.string s.name,.int .i64 s.height,.int .i64 s.time,.slice o1 s.clients.length c1,.slice o2 s.conns.length c2,.slice o3 s.chans.length c3,.slice o4 s.sent.length c4,.slice o5 s.got.length c5,.slice o6 s.acks.length c6,.slice o7 s.purses.length c7] 28)).alloc (.cells #[.int .i64 h.height,.int .i64 h.prf.index,.int .i64 h.prf.size,.slice q1 h.prf.key.length e1,.slice q2 h.prf.val.length e2,.slice q3 h.prf.path.length e3,.bool h.gap.hasL,.bool h.gap.hasR,.int .i64 h.gap.left.index,.int .i64 h.gap.left.size,.slice r1 h.gap.left.key.length s1,.slice r2 h.gap.left.val.length s2,.slice r3 h.gap.left.path.length s3,.int .i64 h.gap.right.index,.int .i64 h.gap.right.size,.slice r4 h.gap.right.key.length s4,.slice r5 h.gap.right.val.length s5,.slice r6 h.gap.right.path.length s6] 46)=w0:=⟨_,rfl⟩
 have hb0:Below w.heap.size w w0:=by rw [← hw0];exact ((Below.refl _ _).alloc (Nat.le_refl _) _).alloc (by simp) _
 have HB0:=hid hb0
 have HR0:=hid (show Row w0 (w.heap.size) 28 [.string s.name,.int .i64 s.height,.int .i64 s.time,.slice o1 s.clients.length c1,.slice o2 s.conns.length c2,.slice o3 s.chans.length c3,.slice o4 s.sent.length c4,.slice o5 s.got.length c5,.slice o6 s.acks.length c6,.slice o7 s.purses.length c7] by rw [← hw0];exact ((Row.new _ _ _).alloc _))
 have HR1:=hid (show Row w0 (w.heap.size+1) 46 [.int .i64 h.height,.int .i64 h.prf.index,.int .i64 h.prf.size,.slice q1 h.prf.key.length e1,.slice q2 h.prf.val.length e2,.slice q3 h.prf.path.length e3,.bool h.gap.hasL,.bool h.gap.hasR,.int .i64 h.gap.left.index,.int .i64 h.gap.left.size,.slice r1 h.gap.left.key.length s1,.slice r2 h.gap.left.val.length s2,.slice r3 h.gap.left.path.length s3,.int .i64 h.gap.right.index,.int .i64 h.gap.right.size,.slice r4 h.gap.right.key.length s4,.slice r5 h.gap.right.val.length s5,.slice r6 h.gap.right.path.length s6] by rw [← hw0];exact (Row.newAt _ _ _ _ (by simp)))
 obtain ⟨b,f,rfl,gx⟩:=(hm.below (hb0.mono hN)).clients.spot (by omega)
 obtain ⟨hbN,r,hr,cx⟩:=gx k x hx
 obtain ⟨kc,rfl,hkc⟩:=hr
 obtain ⟨ka,ma,rfl,-⟩:=hkc.shape
 have x0:=cx 0 _ rfl
 have x1:=cx 1 _ rfl
 have x2:=cx 2 _ rfl
 have x3:=cx 3 _ rfl
 simp only [Nat.add_zero] at x0
 have HCA:=hid (show w0.cell? ⟨b,f+k*4,none⟩=some (.string x.chain)∧w0.cell? ⟨b,f+k*4+1,none⟩=some (.int .i64 x.trust)∧w0.cell? ⟨b,f+k*4+2,none⟩=some (.bool x.frozen)∧w0.cell? ⟨b,f+k*4+3,none⟩=some (.slice ka x.known.length ma) from ⟨x0,x1,x2,x3⟩)
 have HCV:=hid (show ClV w0 N (.agg #[.string x.chain,.int .i64 x.trust,.bool x.frozen,.slice ka x.known.length ma]) x from ⟨_,rfl,hkc⟩)
 have HXF:=hid (hfit.2.1.2 x (List.mem_of_getElem? hx))
 have HPV:=hid (hpv.below (hb0.mono hN))
 have HPF:=hid hhf.1
 have HTAB:=hid (htab.past hb0)
 have hbl:b<w0.heap.size:=Nat.lt_of_lt_of_le hbN (Nat.le_trans hN hb0.size)
 have hN0:N≤w0.heap.size:=Nat.le_trans hN hb0.size
 have HK:=hid (hk.below (hb0.mono hN))
 have HV:=hid (hvl2.below (hb0.mono hN))
 have HW0:=hid hw0
 clear hv hm hw0 gx cx hx hkc x0 x1 x2 x3 hpv hh htab hfit hhf hz hk hvl2 hb0
 go_enter Tryz.func59,Tryz.ntmps59
 go_upto_region 1 with fail
 rw [HW0.out]
 refine Qkc s x k s.clients.length b f c1 ma ka o2 o3 o4 o5 o6 o7 c2 c3 c4 c5 c6 c7 h z key val kv vv q1 q2 q3 r1 r2 r3 r4 r5 r6 e1 e2 e3 s1 s2 s3 s4 s5 s6 hN0 HR0 hlt' hbl HCA HCV HR1 HPV HTAB HXF HPF HK HV HZ hkl hvl _ (hid ?_)
 intro σ w1 hb1 ea
 have HB1:=hgo HB0 hb1
 rw [ea]
 clear hb1 ea
 go_wp2
 go_ret
 exact ⟨rfl,HB1.out⟩
theorem ZA {t st:TypeId} {k:Nat} (hF:Qef t st k) {ops:Array Oper} {rest:List Oper} {o:Oper} {a:Act} {W:World} {Q:Exit→Act→World→Prop} (hgd:o.guard=none) (s x:Operand)
  (ho:o.op=.call { callee:=.builtin .append,args:=#[s,x],argTypes:=#[st,st] })
  (base:Nat) (v:Value) (rs:List (List Value)) (hs:a.eval s=v) (hown:Qw t k W base v rs) (ad:Addr) (c:Nat) (r:List Value) {M:Nat} (hx:a.eval x=.slice (some ad) 1 c) (hsrc:JI W M (.slice (some ad) 1 c) k [r])
  (hok:∀ q∈[r],q.length=k∧∀ x∈q,x.oneCell'=true) (hl:rs.length≤100000) (hbase:base≤W.heap.size)
  (h:∀ g cap w',Qw t k w' base (.slice (some ⟨g,0,none⟩) (rs.length+1) cap) (rs ++ [r])→Below base W w'→W.grownBy w' v.ownBlock→(v.ownBlock=some g∨g=W.heap.size)→wpList Tryz.prog ops Q rest (a.put o.dst (.slice (some ⟨g,0,none⟩) (rs.length+1) cap)) w'):wpList Tryz.prog ops Q (o :: rest) a W:=by
 obtain ⟨hu,i0,z,B,hi0,hz0,hz1,hz2,hz3,h0,hB⟩:=hF
 rcases hsrc.source (fun r hr=>(hok r hr).1) h0 with ⟨e,_⟩ | ⟨ad',cap,e,hcs⟩
 ·cases e
 ·simp only [List.length_singleton,Value.slice.injEq,Option.some.injEq] at e
  obtain ⟨rfl,-,rfl⟩:=e
  have hby:(rs.length+1)*B≤140737488355328:=by
   have h1:=Nat.mul_le_mul (show rs.length+1≤100001 by omega) hB
   omega
  refine wpList_append_lies W hgd s x st ho base t i0 z k B hu hi0 hz0 hz1 hz2 hz3 h0 v rs.length rs.flatten hs hown.2 ad 1 c [r].flatten hx (by simp [(hok r (by simp)).1]) hcs (QdH hok) (by decide) (by unfold maxLen;omega) hby hbase W.heap.size rfl ?_
  intro g cap w' h1 h2 h3 _
  refine h g cap w' ⟨fun q hq=>?_,?_⟩ ((Below.refl base W).grown h2 hbase (fun k hk=>(World.ownsRow.lt hown.2 k hk).1)) h2 h3
  ·rcases List.mem_append.1 hq with hq | hq
   ·exact hown.1 q hq
   ·exact hok q hq
  ·rw [List.length_append,List.flatten_append]
   exact h1
theorem Qeg {t:TypeId} {k:Nat} {W:World} {g:Nat} {r:List Value} (h:Row W g t r):JI W (g+1) (.slice (some ⟨g,0,none⟩) 1 1) k [r]:=by
 refine .inr (.inr ⟨g,0,1,rfl,Nat.le_refl _,fun i r' hr=>?_⟩)
 have hi:i=0:=by have:=(List.getElem?_eq_some_iff.1 hr).1;simp at this;exact this
 subst hi
 obtain rfl:r=r':=by simpa using hr
 refine ⟨by omega,fun j x hx=>?_⟩
 rw [h.cell,show 0+0*k+j=j by omega]
 exact hx
theorem QdF (s:St) (v:Value) (N:Nat) (w:World) (o:Cn) (hv:StV w N v s) (hN:N≤w.heap.size) (hfit:s.fits) (hfew:few s) :
  Calls Tryz.prog 56 #[v,.agg #[.int .i64 o.state,.int .i64 o.client,.int .i64 o.oclient,.int .i64 o.oconn]] w fun e w'=>Below w.heap.size w w'∧∃ v',e=.returned (.tuple #[v',.int .i64 (JD s (Yc s)),.int .i64 (Yc s)])∧Qn N w.heap.size w' v' (Zb s (Yc s) o):=by
 have HCP:=hid (fun wx (hx:Below w.heap.size w wx)=>Qj1 s v N wx (hv.below (hx.mono hN)) (Nat.le_trans hN hx.size) hfit hfew)
 have hlc:s.conns.length≤100:=hfew.2.1
 obtain ⟨o1,c1,o2,c2,o3,c3,o4,c4,o5,c5,o6,c6,o7,c7,rfl,hm⟩:=hv.open
 obtain ⟨w0,hw0,hb0,HR0,HR1,HR2,hsz0⟩:=Qg9 w 28 [.string s.name,.int .i64 s.height,.int .i64 s.time,.slice o1 s.clients.length c1,.slice o2 s.conns.length c2,.slice o3 s.chans.length c3,.slice o4 s.sent.length c4,.slice o5 s.got.length c5,.slice o6 s.acks.length c6,.slice o7 s.purses.length c7] 58 [.int .i64 o.state,.int .i64 o.client,.int .i64 o.oclient,.int .i64 o.oconn] 28 [.string ⟨#[]⟩,.int .i64 0,.int .i64 0,.slice none 0 0,.slice none 0 0,.slice none 0 0,.slice none 0 0,.slice none 0 0,.slice none 0 0,.slice none 0 0]
 have HB0:=hid hb0
 have HIZ:=hid (show (Tryz.prog.info? 28).map (·.size)=some 10 by kernel_rfl)
 have k4:w0.cell? ⟨w.heap.size,4,none⟩=some (.slice o2 s.conns.length c2):=HR0.out.cell 4
 have HW0:=hid hw0
 clear hv hm hfit hfew hb0 hw0
 by_cases h8:8≤s.conns.length
 ·have e8:decide ((8:Int)≤(s.conns.length:Int))=true:=by simp;omega
  have HM:=hid (show Yc s=5 from if_pos h8)
  obtain ⟨w1,hw1,HRS1,HHZ1,HON1,HSW1⟩:=QJ HR2.out [.string ⟨#[]⟩,.int .i64 0,.int .i64 0,.slice none 0 0,.slice none 0 0,.slice none 0 0,.slice none 0 0,.slice none 0 0,.slice none 0 0,.slice none 0 0] (by simp [Value.oneCell'])
  have HB1:=hid (show Below w.heap.size w w1 by rw [← hw1];exact Qd HB0.out (by omega) _)
  clear hw1
  go_enter Tryz.func56,Tryz.ntmps56
  go_upto_region 1 with fail
  rw [HW0.out]
  go_wp2_with (refine Qf rfl (.tmp 4) (.tmp 13) rfl rfl rfl HHZ1.out HIZ.out rfl HON1.out HSW1.out ?_)
  obtain ⟨y0,y1,y2,y3,y4,y5,y6,y7,y8,y9⟩:=HRS1.out.c10
  refine bodyPost_ret (v:=.tuple #[.agg #[.string ⟨#[]⟩,.int .i64 0,.int .i64 0,.slice none 0 0,.slice none 0 0,.slice none 0 0,.slice none 0 0,.slice none 0 0,.slice none 0 0,.slice none 0 0],.int .i64 0,.int .i64 5]) (by simp [results,Tryz.results56,go_sem,y0,y1,y2,y3,y4,y5,y6,y7,y8,y9]) rfl ⟨HB1.out,_,by rw [HM.out];first | done | rfl,?_⟩
  rw [HM.out]
  exact Qp _ _ _
 ·have e8:decide ((8:Int)≤(s.conns.length:Int))=false:=by simp;omega
  have HM:=hid (show Yc s=0 from if_neg h8)
  have k0:w0.cell? ⟨w.heap.size,0,none⟩=some (.string s.name):=HR0.out.cell 0
  have k1:w0.cell? ⟨w.heap.size,1,none⟩=some (.int .i64 s.height):=HR0.out.cell 1
  have k2:w0.cell? ⟨w.heap.size,2,none⟩=some (.int .i64 s.time):=HR0.out.cell 2
  have k3:w0.cell? ⟨w.heap.size,3,none⟩=some (.slice o1 s.clients.length c1):=HR0.out.cell 3
  have k5:w0.cell? ⟨w.heap.size,5,none⟩=some (.slice o3 s.chans.length c3):=HR0.out.cell 5
  have k6:w0.cell? ⟨w.heap.size,6,none⟩=some (.slice o4 s.sent.length c4):=HR0.out.cell 6
  have k7:w0.cell? ⟨w.heap.size,7,none⟩=some (.slice o5 s.got.length c5):=HR0.out.cell 7
  have k8:w0.cell? ⟨w.heap.size,8,none⟩=some (.slice o6 s.acks.length c6):=HR0.out.cell 8
  have k9:w0.cell? ⟨w.heap.size,9,none⟩=some (.slice o7 s.purses.length c7):=HR0.out.cell 9
  go_enter Tryz.func56,Tryz.ntmps56
  go_upto_region 1 with fail
  rw [HW0.out]
  go_wp2_with fail
  refine (HCP.out _ HB0.out).mono ?_
  rintro e w1 ⟨hb1,p1,d1,p2,d2,p3,d3,p4,d4,p5,d5,p6,d6,p7,d7,rfl,hown⟩
  have HB1:=hgo HB0 hb1
  have HRA:=rgo HR0 hb1
  have HRC:=rgo HR1 hb1
  have HRZ:=rgo HR2 hb1
  have hsz1:=hb1.size
  obtain ⟨w2,hw2,HRS2,HHZ2,HON2,HSW2⟩:=QJ HRA.out [.string s.name,.int .i64 s.height,.int .i64 s.time,.slice p1 s.clients.length d1,.slice p2 s.conns.length d2,.slice p3 s.chans.length d3,.slice p4 s.sent.length d4,.slice p5 s.got.length d5,.slice p6 s.acks.length d6,.slice p7 s.purses.length d7] (by simp [Value.oneCell'])
  have HO2:=hid (hown.on (w':=w2) (by rw [← hw2];exact Qd (Below.refl 0 w1) (Nat.zero_le _) _) (fun b _ hlt=>by rw [← hw2];exact setRow_other _ _ _ _ (by omega)))
  have HB2:=hid (show Below w.heap.size w w2 by rw [← hw2];exact Qd HB1.out (Nat.le_refl _) _)
  have HC2:=hid (show Row w2 (w.heap.size+1) 58 [.int .i64 o.state,.int .i64 o.client,.int .i64 o.oclient,.int .i64 o.oconn] by rw [← hw2];exact (setRow_other _ _ _ _ (by omega)).trans HRC.out)
  have HZ2:=hid (show Row w2 (w.heap.size+1+1) 28 [.string ⟨#[]⟩,.int .i64 0,.int .i64 0,.slice none 0 0,.slice none 0 0,.slice none 0 0,.slice none 0 0,.slice none 0 0,.slice none 0 0,.slice none 0 0] by rw [← hw2];exact (setRow_other _ _ _ _ (by omega)).trans HRZ.out)
  have hsz2:w1.heap.size≤w2.heap.size:=by rw [← hw2];simp
  clear k0 k1 k2 k3 k4 k5 k6 k7 k8 k9 hb1 hown hw2
  go_upto_region 5 with (refine Qf rfl (.tmp 2) (.tmp 15) rfl rfl rfl HHZ2.out HIZ.out rfl HON2.out HSW2.out ?_)
  obtain ⟨w3,hw3⟩:∃ w3,w2.alloc (.cells #[.int .i64 o.state,.int .i64 o.client,.int .i64 o.oclient,.int .i64 o.oconn] 58)=w3:=⟨_,rfl⟩
  have hb3:=bof hw3
  have HSRC:=hid (show JI w3 (w2.heap.size+1) (.slice (some ⟨w2.heap.size,0,none⟩) 1 1) 4 [Qu o] from Qeg (by rw [← hw3];exact Row.new _ _ _))
  have HO3:=hid (HO2.out.below hb3)
  have HOC:=hid HO3.out.conns
  have HB3:=hgo HB2 hb3
  have HR3:=rgo HRS2 hb3
  have HZ3:=rgo HZ2 hb3
  have hsz3:=hb3.size
  have c4:w2.cell? ⟨w.heap.size,4,none⟩=some (.slice p2 s.conns.length d2):=HRS2.out.cell 4
  obtain ⟨m0,m1,m2,m3⟩:=HC2.out.c4
  have HW3:=hid hw3
  clear hb3 hw3
  go_wp2_with (at_builtin;refine Hid.out ?_)
  rw [HW3.out]
  refine hid ?_
  refine ZA QcT rfl _ _ rfl w0.heap.size _ (s.conns.map Qu) rfl HOC.out _ _ (Qu o) rfl HSRC.out (Yx (l:=[o])) (by simp;omega) (by omega) ?_
  intro g da w4 hrow hb4 hg4 hlie
  have hle:(s.conns.map Qu).length+1=(s.conns ++ [o]).length:=by simp
  rw [hle] at hrow ⊢
  obtain ⟨pa,hpa⟩:∃ pa:Option Addr,some ⟨g,0,none⟩=pa:=⟨_,rfl⟩
  have hrow':Q3 58 Qu 4 w4 w0.heap.size (.slice (some ⟨g,0,none⟩) (s.conns ++ [o]).length da) (s.conns ++ [o]):=by have:=hrow;rw [← List.map_singleton,← List.map_append] at this;exact this
  have ho4:=HO3.out.putConns hg4 hrow' (fun b e=>by obtain rfl:g=b:=(by simpa [Value.ownBlock] using e);exact hlie.imp id (fun h=>by omega))
  rw [hpa] at ho4 ⊢
  have hne:∀ g,g<w0.heap.size→w4.heap[g]?=w3.heap[g]?:=fun g hg=>hb4.block g hg
  have HR4:=hid (show Row w4 w.heap.size 28 [.string s.name,.int .i64 s.height,.int .i64 s.time,.slice p1 s.clients.length d1,.slice p2 s.conns.length d2,.slice p3 s.chans.length d3,.slice p4 s.sent.length d4,.slice p5 s.got.length d5,.slice p6 s.acks.length d6,.slice p7 s.purses.length d7] from (hne _ (by omega)).trans HR3.out)
  have HZ4:=hid (show Row w4 (w.heap.size+1+1) 28 [.string ⟨#[]⟩,.int .i64 0,.int .i64 0,.slice none 0 0,.slice none 0 0,.slice none 0 0,.slice none 0 0,.slice none 0 0,.slice none 0 0,.slice none 0 0] from (hne _ (by omega)).trans HZ3.out)
  have HB4:=hid (show Below w.heap.size w w4 from HB3.out.trans (hb4.mono (by omega)))
  have g4:w4.cell? ⟨w.heap.size,4,none⟩=some (.slice p2 s.conns.length d2):=HR4.out.cell 4
  have z4:w4.frozen? ⟨w.heap.size,4,none⟩=false:=HR4.out.frozen 4
  obtain ⟨w5,hw5⟩:∃ w5,w4.setCell ⟨w.heap.size,4,none⟩ (.slice pa (s.conns ++ [o]).length da)=w5:=⟨_,rfl⟩
  have HR5:=hid (show Row w5 w.heap.size 28 [.string s.name,.int .i64 s.height,.int .i64 s.time,.slice p1 s.clients.length d1,.slice pa (s.conns ++ [o]).length da,.slice p3 s.chans.length d3,.slice p4 s.sent.length d4,.slice p5 s.got.length d5,.slice p6 s.acks.length d6,.slice p7 s.purses.length d7] by rw [← hw5];exact HR4.out.set 4 _)
  have HZ5:=hid (show Row w5 (w.heap.size+1+1) 28 [.string ⟨#[]⟩,.int .i64 0,.int .i64 0,.slice none 0 0,.slice none 0 0,.slice none 0 0,.slice none 0 0,.slice none 0 0,.slice none 0 0,.slice none 0 0] by rw [← hw5];exact HZ4.out.other _ (by simp;omega))
  have HO5:=hid (show Jg N w0.heap.size w5 { s with conns:=s.conns ++ [o] } (.slice p1 s.clients.length d1) (.slice pa (s.conns ++ [o]).length da) (.slice p3 s.chans.length d3) (.slice p4 s.sent.length d4) (.slice p5 s.got.length d5) (.slice p6 s.acks.length d6) (.slice p7 s.purses.length d7) by rw [← hw5];exact ho4.setCell (a:=⟨w.heap.size,4,none⟩) hN (by simp;omega) _)
  have HB5:=hid (show Below w.heap.size w w5 by rw [← hw5];exact HB4.out.setCell (Nat.le_refl _) _)
  have HW5:=hid hw5
  clear hrow hrow' ho4 hb4 hg4 hne hw5 c4 m0 m1 m2 m3 hlie hle hpa
  generalize hln:(s.conns ++ [o]).length=ln at *
  have HLN:=hid hln
  clear hln
  go_upto_region 6 with fail
  rw [HW5.out]
  obtain ⟨w6,hw6,HRS6,HHZ6,HON6,HSW6⟩:=QJ HZ5.out [.string s.name,.int .i64 s.height,.int .i64 s.time,.slice p1 s.clients.length d1,.slice pa ln da,.slice p3 s.chans.length d3,.slice p4 s.sent.length d4,.slice p5 s.got.length d5,.slice p6 s.acks.length d6,.slice p7 s.purses.length d7] (by simp [Value.oneCell'])
  have HB6:=hid (show Below w.heap.size w w6 by rw [← hw6];exact Qd HB5.out (by omega) _)
  have HO6:=hid (HO5.out.on (w':=w6) (by rw [← hw6];exact Qd (Below.refl 0 w5) (Nat.zero_le _) _) (fun b _ hlt=>by rw [← hw6];exact setRow_other _ _ _ _ (by omega)))
  obtain ⟨q0,q1,q2,q3,q4,q5,q6,q7,q8,q9⟩:=HR5.out.c10
  clear hw6
  go_wp2_with (refine Qf rfl (.tmp 4) (.tmp 22) rfl rfl rfl HHZ6.out HIZ.out rfl HON6.out HSW6.out ?_)
  obtain ⟨y0,y1,y2,y3,y4,y5,y6,y7,y8,y9⟩:=HRS6.out.c10
  refine bodyPost_ret (v:=.tuple #[.agg #[.string s.name,.int .i64 s.height,.int .i64 s.time,.slice p1 s.clients.length d1,.slice pa ln da,.slice p3 s.chans.length d3,.slice p4 s.sent.length d4,.slice p5 s.got.length d5,.slice p6 s.acks.length d6,.slice p7 s.purses.length d7],.int .i64 (s.conns.length:Int),.int .i64 0]) (by simp [results,Tryz.results56,go_sem,y0,y1,y2,y3,y4,y5,y6,y7,y8,y9]) rfl ⟨HB6.out,_,by rw [HM.out];first | done | rfl,?_⟩
  rw [HM.out]
  exact (HO6.out.lower (by omega)).holds
end Go.Proofs.YtooemgkjkngpcaaGreatDoor
