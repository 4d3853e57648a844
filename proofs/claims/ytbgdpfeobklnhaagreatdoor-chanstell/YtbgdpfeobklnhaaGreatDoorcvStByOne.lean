/-
  What package state's oneByOne answers: what is wrong with the first entry that is wrong.
-/
import Derived.Test.YtbgdpfeobklnhaaGreatDoorcvStRise
import Derived.Test.YtbgdpfeobklnhaaGreatDoorcvClAsk
namespace Go.Proofs.YtbgdpfeobklnhaaGreatDoor
set_option maxRecDepth 1000000
set_option maxHeartbeats 8000000
open Go.RowKit
theorem YL {α:Type} (f:α→Int) (l:List α) (k:Nat) (x:α) (h:l[k]?=some x):Qf f (l.drop k)=if f x≠0 then f x else Qf f (l.drop (k+1)):=by
 have hk:=(List.getElem?_eq_some_iff.1 h).1
 rw [List.drop_eq_getElem_cons hk,(List.getElem?_eq_some_iff.1 h).2,Qf]
theorem Qeo {α:Type} (l:List α) (k:Nat) (x:α) (h:l[k]?=some x):l.drop k=x :: l.drop (k+1):=by
 have hk:=(List.getElem?_eq_some_iff.1 h).1
 rw [List.drop_eq_getElem_cons hk,(List.getElem?_eq_some_iff.1 h).2]
theorem Qjf (l:List Cl) (sv:Value) (N:Nat) (w:World) (hN:N≤w.heap.size) (hv:QB ClR 4 w N sv l) (hl:l.length<2305843009213693952) (hfit:∀ c∈l,c.fits) :
  Calls Tryz.prog 42 #[sv,.func (.func 43) #[] #[]] w fun e w'=>e=.returned (.int .i64 (Qf Qg l))∧Below w.heap.size w w':=by
 obtain ⟨oa,ca,rfl,hca⟩:=hv.shape
 have HV:=hid hv
 clear hv
 generalize hn:l.length=n at *
 have HN:=hid hn
 clear hn
 go_enter Tryz.func42,Tryz.ntmps42
 go_wp2_with fail
 go_loopw [6,7,10] (fun _ _ i wr=>∃ k:Nat,k≤n∧i=.int .i64 (k:Int)∧Hid (Below w.heap.size w wr∧Qf Qg l=Qf Qg (l.drop k))) (fun _ _ i _=>n-(intOf i).toNat)
 case atStart=>exact ⟨0,by omega,rfl,hid ⟨Below.refl _ _,rfl⟩⟩
 case round =>
  obtain ⟨k,hk,rfl,HT⟩:=hrel
  have HBW:=hid HT.out.1
  have HUP:=hid HT.out.2
  clear HT
  have hszw:=HBW.out.size
  by_cases hlt:k<n
  ·obtain ⟨x,hx⟩:∃ x,l[k]?=some x:=⟨l[k]'(by rw [HN.out];exact hlt),List.getElem?_eq_getElem _⟩
   obtain ⟨b,o,rfl,hcells⟩:=HV.out.spot (by omega)
   obtain ⟨hbN,r,hr,hc⟩:=hcells k x hx
   obtain ⟨kv,rfl,hkn⟩:=hr
   obtain ⟨ok,ck,rfl,-⟩:=hkn.shape
   have hbl:b<w.heap.size:=by omega
   have f0:=cgo (hc 0 _ rfl) HBW hbl
   have f1:=cgo (hc 1 _ rfl) HBW hbl
   have f2:=cgo (hc 2 _ rfl) HBW hbl
   have f3:=cgo (hc 3 _ rfl) HBW hbl
   simp only [Nat.add_zero] at f0
   have hlt':(k:Int)<(n:Int):=by omega
   obtain ⟨w2,hw2⟩:∃ w2,wr.alloc (.cells #[.string x.chain,.int .i64 x.trust,.bool x.frozen,.slice ok x.known.length ck] 72)=w2:=⟨_,rfl⟩
   have hbr2:=bof hw2
   have HB2:=hid (HBW.out.trans (hbr2.mono hszw))
   have hrow2:Row w2 wr.heap.size 72 [.string x.chain,.int .i64 x.trust,.bool x.frozen,.slice ok x.known.length ck]:=by rw [← hw2];exact Row.new _ _ _
   have q0:w2.cell? ⟨wr.heap.size,0,none⟩=some (.string x.chain):=hrow2.cell 0
   have q1:w2.cell? ⟨wr.heap.size,1,none⟩=some (.int .i64 x.trust):=hrow2.cell 1
   have q2:w2.cell? ⟨wr.heap.size,2,none⟩=some (.bool x.frozen):=hrow2.cell 2
   have q3:w2.cell? ⟨wr.heap.size,3,none⟩=some (.slice ok x.known.length ck):=hrow2.cell 3
   have HCL:=hid (show Calls Tryz.prog 43 #[.agg #[.string x.chain,.int .i64 x.trust,.bool x.frozen,.slice ok x.known.length ck]] w2 _ from QeQ x _ N w2 ⟨_,rfl,hkn.below (HB2.out.mono hN)⟩ (Nat.le_trans hN HB2.out.size) (hfit x (List.mem_of_getElem? hx)))
   have HST:=hid (YL Qg l k x hx)
   have HW2:=hid hw2
   clear hbr2 hrow2 hw2 hcells hc hkn hx
   by_cases hz:Qg x=0
   ·have HZ:=hid hz
    clear hz
    go_upto_region 4 with fail
    rw [HW2.out]
    go_wp2_with fail
    refine HCL.out.mono ?_
    rintro e w3 ⟨rfl,hb3⟩
    rw [HZ.out]
    have HB3:=hgo HB2 hb3
    have HV2:=hid (show Qf Qg l=Qf Qg (l.drop (k+1)) by rw [HUP.out,HST.out,if_neg (by rw [HZ.out];simp)])
    clear hb3
    go_wp2
    go_roundw
    case rel=>exact ⟨k+1,by omega,by go_num,hid ⟨HB3.out,HV2.out⟩⟩
    case measure=>simp [intOf];omega
   ·have e0:(Qg x != 0)=true:=by simpa using hz
    have HV2:=hid (show Qf Qg l=Qg x by rw [HUP.out,HST.out,if_pos hz])
    clear hz
    generalize hzz:Qg x=z at *
    clear hzz
    go_upto_region 4 with fail
    rw [HW2.out]
    go_wp2_with fail
    refine HCL.out.mono ?_
    rintro e w3 ⟨rfl,hb3⟩
    have HB3:=hgo HB2 hb3
    clear hb3
    go_wp2
    go_ret
    exact ⟨by rw [HV2.out];first | done | rfl,HB3.out⟩
  ·have hge:decide ((k:Int)<(n:Int))=false:=by simp;omega
   have HE:=hid (show Qf Qg l=0 by rw [HUP.out,List.drop_eq_nil_of_le (by rw [HN.out];omega)];rfl)
   go_wp2
   go_ret
   exact ⟨by rw [HE.out];first | done | rfl,HBW.out⟩
theorem Qjg (l:List Cn) (sv:Value) (N:Nat) (w:World) (hN:N≤w.heap.size) (hv:QB CnR 4 w N sv l) (hl:l.length<2305843009213693952) :
  Calls Tryz.prog 44 #[sv,.func (.func 45) #[] #[]] w fun e w'=>e=.returned (.int .i64 (Qf Qo l))∧Below w.heap.size w w':=by
 obtain ⟨oa,ca,rfl,hca⟩:=hv.shape
 have HV:=hid hv
 clear hv
 generalize hn:l.length=n at *
 have HN:=hid hn
 clear hn
 go_enter Tryz.func44,Tryz.ntmps44
 go_wp2_with fail
 go_loopw [6,7,10] (fun _ _ i wr=>∃ k:Nat,k≤n∧i=.int .i64 (k:Int)∧Hid (Below w.heap.size w wr∧Qf Qo l=Qf Qo (l.drop k))) (fun _ _ i _=>n-(intOf i).toNat)
 case atStart=>exact ⟨0,by omega,rfl,hid ⟨Below.refl _ _,rfl⟩⟩
 case round =>
  obtain ⟨k,hk,rfl,HT⟩:=hrel
  have HBW:=hid HT.out.1
  have HUP:=hid HT.out.2
  clear HT
  have hszw:=HBW.out.size
  by_cases hlt:k<n
  ·obtain ⟨x,hx⟩:∃ x,l[k]?=some x:=⟨l[k]'(by rw [HN.out];exact hlt),List.getElem?_eq_getElem _⟩
   obtain ⟨b,o,rfl,hcells⟩:=HV.out.spot (by omega)
   obtain ⟨hbN,r,hr,hc⟩:=hcells k x hx
   subst hr
   have hbl:b<w.heap.size:=by omega
   have f0:=cgo (hc 0 _ rfl) HBW hbl
   have f1:=cgo (hc 1 _ rfl) HBW hbl
   have f2:=cgo (hc 2 _ rfl) HBW hbl
   have f3:=cgo (hc 3 _ rfl) HBW hbl
   simp only [Nat.add_zero] at f0
   have hlt':(k:Int)<(n:Int):=by omega
   obtain ⟨w2,hw2⟩:∃ w2,wr.alloc (.cells #[.int .i64 x.state,.int .i64 x.client,.int .i64 x.oclient,.int .i64 x.oconn] 60)=w2:=⟨_,rfl⟩
   have hbr2:=bof hw2
   have HB2:=hid (HBW.out.trans (hbr2.mono hszw))
   have hrow2:Row w2 wr.heap.size 60 [.int .i64 x.state,.int .i64 x.client,.int .i64 x.oclient,.int .i64 x.oconn]:=by rw [← hw2];exact Row.new _ _ _
   have q0:w2.cell? ⟨wr.heap.size,0,none⟩=some (.int .i64 x.state):=hrow2.cell 0
   have q1:w2.cell? ⟨wr.heap.size,1,none⟩=some (.int .i64 x.client):=hrow2.cell 1
   have q2:w2.cell? ⟨wr.heap.size,2,none⟩=some (.int .i64 x.oclient):=hrow2.cell 2
   have q3:w2.cell? ⟨wr.heap.size,3,none⟩=some (.int .i64 x.oconn):=hrow2.cell 3
   have HCL:=hid (show Calls Tryz.prog 45 #[.agg #[.int .i64 x.state,.int .i64 x.client,.int .i64 x.oclient,.int .i64 x.oconn]] w2 _ from QdN x w2)
   have HST:=hid (YL Qo l k x hx)
   have HW2:=hid hw2
   clear hbr2 hrow2 hw2 hcells hc hx
   by_cases hz:Qo x=0
   ·have HZ:=hid hz
    clear hz
    go_upto_region 4 with fail
    rw [HW2.out]
    go_wp2_with fail
    refine HCL.out.mono ?_
    rintro e w3 ⟨rfl,hb3⟩
    rw [HZ.out]
    have HB3:=hgo HB2 hb3
    have HV2:=hid (show Qf Qo l=Qf Qo (l.drop (k+1)) by rw [HUP.out,HST.out,if_neg (by rw [HZ.out];simp)])
    clear hb3
    go_wp2
    go_roundw
    case rel=>exact ⟨k+1,by omega,by go_num,hid ⟨HB3.out,HV2.out⟩⟩
    case measure=>simp [intOf];omega
   ·have e0:(Qo x != 0)=true:=by simpa using hz
    have HV2:=hid (show Qf Qo l=Qo x by rw [HUP.out,HST.out,if_pos hz])
    clear hz
    generalize hzz:Qo x=z at *
    clear hzz
    go_upto_region 4 with fail
    rw [HW2.out]
    go_wp2_with fail
    refine HCL.out.mono ?_
    rintro e w3 ⟨rfl,hb3⟩
    have HB3:=hgo HB2 hb3
    clear hb3
    go_wp2
    go_ret
    exact ⟨by rw [HV2.out];first | done | rfl,HB3.out⟩
  ·have hge:decide ((k:Int)<(n:Int))=false:=by simp;omega
   have HE:=hid (show Qf Qo l=0 by rw [HUP.out,List.drop_eq_nil_of_le (by rw [HN.out];omega)];rfl)
   go_wp2
   go_ret
   exact ⟨by rw [HE.out];first | done | rfl,HBW.out⟩
theorem Qje (l:List Ch) (sv:Value) (N:Nat) (w:World) (hN:N≤w.heap.size) (hv:QB ChR 7 w N sv l) (hl:l.length<2305843009213693952) :
  Calls Tryz.prog 46 #[sv,.func (.func 47) #[] #[]] w fun e w'=>e=.returned (.int .i64 (Qf Qm l))∧Below w.heap.size w w':=by
 obtain ⟨oa,ca,rfl,hca⟩:=hv.shape
 have HV:=hid hv
 clear hv
 generalize hn:l.length=n at *
 have HN:=hid hn
 clear hn
 go_enter Tryz.func46,Tryz.ntmps46
 go_wp2_with fail
 go_loopw [6,7,10] (fun _ _ i wr=>∃ k:Nat,k≤n∧i=.int .i64 (k:Int)∧Hid (Below w.heap.size w wr∧Qf Qm l=Qf Qm (l.drop k))) (fun _ _ i _=>n-(intOf i).toNat)
 case atStart=>exact ⟨0,by omega,rfl,hid ⟨Below.refl _ _,rfl⟩⟩
 case round =>
  obtain ⟨k,hk,rfl,HT⟩:=hrel
  have HBW:=hid HT.out.1
  have HUP:=hid HT.out.2
  clear HT
  have hszw:=HBW.out.size
  by_cases hlt:k<n
  ·obtain ⟨x,hx⟩:∃ x,l[k]?=some x:=⟨l[k]'(by rw [HN.out];exact hlt),List.getElem?_eq_getElem _⟩
   obtain ⟨b,o,rfl,hcells⟩:=HV.out.spot (by omega)
   obtain ⟨hbN,r,hr,hc⟩:=hcells k x hx
   subst hr
   have hbl:b<w.heap.size:=by omega
   have f0:=cgo (hc 0 _ rfl) HBW hbl
   have f1:=cgo (hc 1 _ rfl) HBW hbl
   have f2:=cgo (hc 2 _ rfl) HBW hbl
   have f3:=cgo (hc 3 _ rfl) HBW hbl
   have f4:=cgo (hc 4 _ rfl) HBW hbl
   have f5:=cgo (hc 5 _ rfl) HBW hbl
   have f6:=cgo (hc 6 _ rfl) HBW hbl
   simp only [Nat.add_zero] at f0
   have hlt':(k:Int)<(n:Int):=by omega
   obtain ⟨w2,hw2⟩:∃ w2,wr.alloc (.cells #[.int .i64 x.state,.bool x.ordered,.int .i64 x.conn,.int .i64 x.ochan,.int .i64 x.send,.int .i64 x.recv,.int .i64 x.ack] 54)=w2:=⟨_,rfl⟩
   have hbr2:=bof hw2
   have HB2:=hid (HBW.out.trans (hbr2.mono hszw))
   have hrow2:Row w2 wr.heap.size 54 [.int .i64 x.state,.bool x.ordered,.int .i64 x.conn,.int .i64 x.ochan,.int .i64 x.send,.int .i64 x.recv,.int .i64 x.ack]:=by rw [← hw2];exact Row.new _ _ _
   have q0:w2.cell? ⟨wr.heap.size,0,none⟩=some (.int .i64 x.state):=hrow2.cell 0
   have q1:w2.cell? ⟨wr.heap.size,1,none⟩=some (.bool x.ordered):=hrow2.cell 1
   have q2:w2.cell? ⟨wr.heap.size,2,none⟩=some (.int .i64 x.conn):=hrow2.cell 2
   have q3:w2.cell? ⟨wr.heap.size,3,none⟩=some (.int .i64 x.ochan):=hrow2.cell 3
   have q4:w2.cell? ⟨wr.heap.size,4,none⟩=some (.int .i64 x.send):=hrow2.cell 4
   have q5:w2.cell? ⟨wr.heap.size,5,none⟩=some (.int .i64 x.recv):=hrow2.cell 5
   have q6:w2.cell? ⟨wr.heap.size,6,none⟩=some (.int .i64 x.ack):=hrow2.cell 6
   have HCL:=hid (show Calls Tryz.prog 47 #[.agg #[.int .i64 x.state,.bool x.ordered,.int .i64 x.conn,.int .i64 x.ochan,.int .i64 x.send,.int .i64 x.recv,.int .i64 x.ack]] w2 _ from QdM x w2)
   have HST:=hid (YL Qm l k x hx)
   have HW2:=hid hw2
   clear hbr2 hrow2 hw2 hcells hc hx
   by_cases hz:Qm x=0
   ·have HZ:=hid hz
    clear hz
    go_upto_region 4 with fail
    rw [HW2.out]
    go_wp2_with fail
    refine HCL.out.mono ?_
    rintro e w3 ⟨rfl,hb3⟩
    rw [HZ.out]
    have HB3:=hgo HB2 hb3
    have HV2:=hid (show Qf Qm l=Qf Qm (l.drop (k+1)) by rw [HUP.out,HST.out,if_neg (by rw [HZ.out];simp)])
    clear hb3
    go_wp2
    go_roundw
    case rel=>exact ⟨k+1,by omega,by go_num,hid ⟨HB3.out,HV2.out⟩⟩
    case measure=>simp [intOf];omega
   ·have e0:(Qm x != 0)=true:=by simpa using hz
    have HV2:=hid (show Qf Qm l=Qm x by rw [HUP.out,HST.out,if_pos hz])
    clear hz
    generalize hzz:Qm x=z at *
    clear hzz
    go_upto_region 4 with fail
    rw [HW2.out]
    go_wp2_with fail
    refine HCL.out.mono ?_
    rintro e w3 ⟨rfl,hb3⟩
    have HB3:=hgo HB2 hb3
    clear hb3
    go_wp2
    go_ret
    exact ⟨by rw [HV2.out];first | done | rfl,HB3.out⟩
  ·have hge:decide ((k:Int)<(n:Int))=false:=by simp;omega
   have HE:=hid (show Qf Qm l=0 by rw [HUP.out,List.drop_eq_nil_of_le (by rw [HN.out];omega)];rfl)
   go_wp2
   go_ret
   exact ⟨by rw [HE.out];first | done | rfl,HBW.out⟩
theorem Qee (l:List Mk) (sv:Value) (N g:Nat) (w:World) (hR:Ji w g none) (hN:N≤g) (hv:QB MkR 3 w N sv l) (hl:l.length<2305843009213693952) :
  Calls Tryz.prog 48 #[sv,YH g] w fun e w'=>e=.returned (.int .i64 (Qp l))∧Below g w w':=by
 have hgw:g+2+1<w.heap.size:=hR.2.2.1.lt
 have HRI:=hid hR
 unfold YH
 clear hR
 obtain ⟨oa,ca,rfl,hca⟩:=hv.shape
 have HV:=hid hv
 clear hv
 generalize hn:l.length=n at *
 have HN:=hid hn
 clear hn
 go_enter Tryz.func48,Tryz.ntmps48
 go_wp2_with fail
 go_loopw [6,7,10] (fun _ _ i wr=>∃ k:Nat,k≤n∧i=.int .i64 (k:Int)∧Hid (∃ p,Ji wr g p∧Below g w wr∧Qp l=YG Qw QO p (l.drop k))) (fun _ _ i _=>n-(intOf i).toNat)
 case atStart=>exact ⟨0,by omega,rfl,hid ⟨none,HRI.out,Below.refl _ _,rfl⟩⟩
 case round =>
  obtain ⟨k,hk,rfl,HT⟩:=hrel
  obtain ⟨p,hri,hbw,hup⟩:=HT.out
  have HBW:=hid hbw
  have HRI2:=hid hri
  have HUP:=hid hup
  clear HT hri hbw hup
  have hszw:=HBW.out.size
  by_cases hlt:k<n
  ·obtain ⟨x,hx⟩:∃ x,l[k]?=some x:=⟨l[k]'(by rw [HN.out];exact hlt),List.getElem?_eq_getElem _⟩
   obtain ⟨b,o,rfl,hcells⟩:=HV.out.spot (by omega)
   obtain ⟨hbN,r,hr,hc⟩:=hcells k x hx
   obtain ⟨dv,rfl,hdv⟩:=hr
   obtain ⟨od,cd,rfl,-⟩:=hdv.shape
   have hbl:b<g:=by omega
   have f0:=cgo (hc 0 _ rfl) HBW hbl
   have f1:=cgo (hc 1 _ rfl) HBW hbl
   have f2:=cgo (hc 2 _ rfl) HBW hbl
   simp only [Nat.add_zero] at f0
   have hlt':(k:Int)<(n:Int):=by omega
   obtain ⟨w2,hw2⟩:∃ w2,wr.alloc (.cells #[.int .i64 x.chan,.int .i64 x.seq,.slice od x.dig.length cd] 93)=w2:=⟨_,rfl⟩
   have hbr2:=bof hw2
   have HB2:=hid (HBW.out.trans (hbr2.mono (show g≤wr.heap.size by omega)))
   have hrow2:Row w2 wr.heap.size 93 [.int .i64 x.chan,.int .i64 x.seq,.slice od x.dig.length cd]:=by rw [← hw2];exact Row.new _ _ _
   have q0:w2.cell? ⟨wr.heap.size,0,none⟩=some (.int .i64 x.chan):=hrow2.cell 0
   have q1:w2.cell? ⟨wr.heap.size,1,none⟩=some (.int .i64 x.seq):=hrow2.cell 1
   have q2:w2.cell? ⟨wr.heap.size,2,none⟩=some (.slice od x.dig.length cd):=hrow2.cell 2
   have HRI3:=hid (HRI2.out.below hbr2)
   have HCL:=hid (show Calls Tryz.prog 72 #[.agg #[.int .i64 x.chan,.int .i64 x.seq,.slice od x.dig.length cd],.pointer (some ⟨g,0,none⟩),.pointer (some ⟨g+2+1,0,none⟩),.pointer (some ⟨g+1,0,none⟩),.pointer (some ⟨g+2,0,none⟩)] w2 _ from Qgo p x od cd g w2 HRI3.out)
   have HST:=hid ((congrArg (YG Qw QO p) (Qeo l k x hx)).trans (Qku p x (l.drop (k+1))))
   have HW2:=hid hw2
   clear hbr2 hrow2 hw2 hcells hc hdv hx
   by_cases hz:JQ p x=0
   ·have HZ:=hid hz
    clear hz
    go_upto_region 4 with fail
    rw [HW2.out]
    go_wp2_with fail
    refine HCL.out.mono ?_
    rintro e w3 ⟨rfl,hb3,hri3⟩
    rw [HZ.out]
    have HB3:=hid (HB2.out.trans hb3)
    have HRI4:=hid (hri3 HZ.out)
    clear hri3
    have HV2:=hid (show Qp l=YG Qw QO (some x) (l.drop (k+1)) by rw [HUP.out,HST.out,if_neg (by rw [HZ.out];simp)])
    clear hb3
    go_wp2
    go_roundw
    case rel=>exact ⟨k+1,by omega,by go_num,hid ⟨some x,HRI4.out,HB3.out,HV2.out⟩⟩
    case measure=>simp [intOf];omega
   ·have e0:(JQ p x != 0)=true:=by simpa using hz
    have HV2:=hid (show Qp l=JQ p x by rw [HUP.out,HST.out,if_pos hz])
    clear hz
    generalize hzz:JQ p x=z at *
    clear hzz
    go_upto_region 4 with fail
    rw [HW2.out]
    go_wp2_with fail
    refine HCL.out.mono ?_
    rintro e w3 ⟨rfl,hb3,hri3⟩
    have HB3:=hid (HB2.out.trans hb3)
    clear hb3
    go_wp2
    go_ret
    exact ⟨by rw [HV2.out];first | done | rfl,HB3.out⟩
  ·have hge:decide ((k:Int)<(n:Int))=false:=by simp;omega
   have HE:=hid (show Qp l=0 by rw [HUP.out,List.drop_eq_nil_of_le (by rw [HN.out];omega)];rfl)
   go_wp2
   go_ret
   exact ⟨by rw [HE.out];first | done | rfl,HBW.out⟩
theorem Qjh (l:List Pu) (sv:Value) (N g:Nat) (w:World) (hR:Ya w g none) (hN:N≤g) (hv:QB PuR 3 w N sv l) (hl:l.length<2305843009213693952) :
  Calls Tryz.prog 52 #[sv,Qce g] w fun e w'=>e=.returned (.int .i64 (QE l))∧Below g w w':=by
 have hgw:g+2+1<w.heap.size:=hR.2.2.1.lt
 have HRI:=hid hR
 unfold Qce
 clear hR
 obtain ⟨oa,ca,rfl,hca⟩:=hv.shape
 have HV:=hid hv
 clear hv
 generalize hn:l.length=n at *
 have HN:=hid hn
 clear hn
 go_enter Tryz.func52,Tryz.ntmps52
 go_wp2_with fail
 go_loopw [6,7,10] (fun _ _ i wr=>∃ k:Nat,k≤n∧i=.int .i64 (k:Int)∧Hid (∃ p,Ya wr g p∧Below g w wr∧QE l=YG QA Ja p (l.drop k))) (fun _ _ i _=>n-(intOf i).toNat)
 case atStart=>exact ⟨0,by omega,rfl,hid ⟨none,HRI.out,Below.refl _ _,rfl⟩⟩
 case round =>
  obtain ⟨k,hk,rfl,HT⟩:=hrel
  obtain ⟨p,hri,hbw,hup⟩:=HT.out
  have HBW:=hid hbw
  have HRI2:=hid hri
  have HUP:=hid hup
  clear HT hri hbw hup
  have hszw:=HBW.out.size
  by_cases hlt:k<n
  ·obtain ⟨x,hx⟩:∃ x,l[k]?=some x:=⟨l[k]'(by rw [HN.out];exact hlt),List.getElem?_eq_getElem _⟩
   obtain ⟨b,o,rfl,hcells⟩:=HV.out.spot (by omega)
   obtain ⟨hbN,r,hr,hc⟩:=hcells k x hx
   subst hr
   have hbl:b<g:=by omega
   have f0:=cgo (hc 0 _ rfl) HBW hbl
   have f1:=cgo (hc 1 _ rfl) HBW hbl
   have f2:=cgo (hc 2 _ rfl) HBW hbl
   simp only [Nat.add_zero] at f0
   have hlt':(k:Int)<(n:Int):=by omega
   obtain ⟨w2,hw2⟩:∃ w2,wr.alloc (.cells #[.string x.owner,.string x.denom,.int .u64 (x.amount:Int)] 75)=w2:=⟨_,rfl⟩
   have hbr2:=bof hw2
   have HB2:=hid (HBW.out.trans (hbr2.mono (show g≤wr.heap.size by omega)))
   have hrow2:Row w2 wr.heap.size 75 [.string x.owner,.string x.denom,.int .u64 (x.amount:Int)]:=by rw [← hw2];exact Row.new _ _ _
   have q0:w2.cell? ⟨wr.heap.size,0,none⟩=some (.string x.owner):=hrow2.cell 0
   have q1:w2.cell? ⟨wr.heap.size,1,none⟩=some (.string x.denom):=hrow2.cell 1
   have q2:w2.cell? ⟨wr.heap.size,2,none⟩=some (.int .u64 (x.amount:Int)):=hrow2.cell 2
   have HRI3:=hid (HRI2.out.below hbr2)
   have HCL:=hid (show Calls Tryz.prog 75 #[.agg #[.string x.owner,.string x.denom,.int .u64 (x.amount:Int)],.pointer (some ⟨g,0,none⟩),.pointer (some ⟨g+2+1,0,none⟩),.pointer (some ⟨g+1,0,none⟩),.pointer (some ⟨g+2,0,none⟩)] w2 _ from Qgp p x g w2 HRI3.out)
   have HST:=hid ((congrArg (YG QA Ja p) (Qeo l k x hx)).trans (Qkv p x (l.drop (k+1))))
   have HW2:=hid hw2
   clear hbr2 hrow2 hw2 hcells hc hx
   by_cases hz:JR p x=0
   ·have HZ:=hid hz
    clear hz
    go_upto_region 4 with fail
    rw [HW2.out]
    go_wp2_with fail
    refine HCL.out.mono ?_
    rintro e w3 ⟨rfl,hb3,hri3⟩
    rw [HZ.out]
    have HB3:=hid (HB2.out.trans hb3)
    have HRI4:=hid (hri3 HZ.out)
    clear hri3
    have HV2:=hid (show QE l=YG QA Ja (some x) (l.drop (k+1)) by rw [HUP.out,HST.out,if_neg (by rw [HZ.out];simp)])
    clear hb3
    go_wp2
    go_roundw
    case rel=>exact ⟨k+1,by omega,by go_num,hid ⟨some x,HRI4.out,HB3.out,HV2.out⟩⟩
    case measure=>simp [intOf];omega
   ·have e0:(JR p x != 0)=true:=by simpa using hz
    have HV2:=hid (show QE l=JR p x by rw [HUP.out,HST.out,if_pos hz])
    clear hz
    generalize hzz:JR p x=z at *
    clear hzz
    go_upto_region 4 with fail
    rw [HW2.out]
    go_wp2_with fail
    refine HCL.out.mono ?_
    rintro e w3 ⟨rfl,hb3,hri3⟩
    have HB3:=hid (HB2.out.trans hb3)
    clear hb3
    go_wp2
    go_ret
    exact ⟨by rw [HV2.out];first | done | rfl,HB3.out⟩
  ·have hge:decide ((k:Int)<(n:Int))=false:=by simp;omega
   have HE:=hid (show QE l=0 by rw [HUP.out,List.drop_eq_nil_of_le (by rw [HN.out];omega)];rfl)
   go_wp2
   go_ret
   exact ⟨by rw [HE.out];first | done | rfl,HBW.out⟩
end Go.Proofs.YtbgdpfeobklnhaaGreatDoor
