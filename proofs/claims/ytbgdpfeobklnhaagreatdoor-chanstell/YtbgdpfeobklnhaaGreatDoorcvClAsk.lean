/-
  What package client's isTime, wrongKnown and Wrong answer: what is wrong with a client.
  What package client's find and At answer: what a client knows of a height; what is known, in memory of its own.
  What package client's trusts, Active and refusal answer.
  What package client's copied and New answer: a client in memory of its own; a new one.
  What the laws of clients ask first: it is true.
-/
import Derived.Test.YtbgdpfeobklnhaaGreatDoorcvClMem
import Derived.Test.YtbgdpfeobklnhaaGreatDoorcvHdMems
import Derived.Test.YtbgdpfeobklnhaaGreatDoorcvSameB
import Derived.Deep.RegionHeld3
import Derived.Deep.RegionWith
namespace Go.Proofs.YtbgdpfeobklnhaaGreatDoor
set_option maxRecDepth 1000000
set_option maxHeartbeats 8000000
open Go.RowKit
def Qdi (n:Int):Bool:=decide (0≤n) && decide (n≤1000000000000)
theorem Yd (n:Int) (w:World):Calls Tryz.prog 97 #[.int .i64 n] w fun e w'=>e=.returned (.bool (Qdi n))∧w'=w:=by
 unfold Qdi
 by_cases h1:0≤n
 ·have e1:decide (0≤n)=true:=by simpa using h1
  go_enter Tryz.func97,Tryz.ntmps97
  go_wp2
  go_ret
  exact ⟨by simp [e1];first | done | rfl,rfl⟩
 ·have e1:decide (0≤n)=false:=by simpa using h1
  go_enter Tryz.func97,Tryz.ntmps97
  go_wp2
  go_ret
  exact ⟨by simp;first | done | rfl | (simp [e1];first | done | rfl),rfl⟩
theorem Yg {n:Int} (h:¬ (n<0∨1000000000000<n)):Qdi n=true:=by unfold Qdi;simp;omega
theorem Yq {n:Int} (h:n<0∨1000000000000<n):Qdi n=false:=by unfold Qdi;rw [Bool.and_eq_false_iff];simp;omega
theorem Qds (k:Kn) (v:Value) (N:Nat) (w:World) (hv:KnV w N v k) :
  Calls Tryz.prog 71 #[v] w fun e w'=>e=.returned (.int .i64 (Jc k))∧Below w.heap.size w w':=by
 obtain ⟨rv,nv,rfl,h1,h2⟩:=hv
 obtain ⟨o1,c1,rfl,_⟩:=h1.shape
 obtain ⟨o2,c2,rfl,_⟩:=h2.shape
 clear h1 h2
 obtain ⟨w0,hw0⟩:∃ w0,w.alloc (.cells #[.int .i64 k.height,.int .i64 k.time,.slice o1 k.root.length c1,.slice o2 k.next.length c2] 114)=w0:=⟨_,rfl⟩
 have HB0:=hid (show Below w.heap.size w w0 by rw [← hw0];exact (Below.refl _ _).alloc (Nat.le_refl _) _)
 have hr0:=(show Row w0 w.heap.size 114 [.int .i64 k.height,.int .i64 k.time,.slice o1 k.root.length c1,.slice o2 k.next.length c2] by rw [← hw0];exact Row.new _ _ _)
 have k0:=hr0.cell 0
 have k1:=hr0.cell 1
 have k2:=hr0.cell 2
 have k3:=hr0.cell 3
 clear hr0
 by_cases hr:k.height<1∨1000000000000<k.height∨k.time<0∨1000000000000<k.time
 ·have HW:=hid (Qdq hr)
  by_cases r1:k.height<1
  ·have e1:decide (k.height<1)=true:=by simpa using r1
   clear hr
   go_enter Tryz.func71,Tryz.ntmps71
   go_wp2
   go_ret
   exact ⟨by rw [HW.out];first | done | rfl,HB0.out⟩
  ·have e1:decide (k.height<1)=false:=by simp;omega
   by_cases r2:1000000000000<k.height
   ·have e2:decide (1000000000000<k.height)=true:=by simpa using r2
    clear hr
    go_enter Tryz.func71,Tryz.ntmps71
    go_wp2
    go_ret
    exact ⟨by rw [HW.out];first | done | rfl,HB0.out⟩
   ·have e2:decide (1000000000000<k.height)=false:=by simp;omega
    have HT:=hid (Yq (n:=k.time) (by omega))
    clear hr
    go_enter Tryz.func71,Tryz.ntmps71
    go_wp2_with (go_at_call 97;refine (Yd _ _).mono ?_;rintro e w' ⟨rfl,rfl⟩;rw [HT.out])
    go_ret
    exact ⟨by rw [HW.out];first | done | rfl,HB0.out⟩
 ·have r1:decide (k.height<1)=false:=by simp;omega
  have r2:decide (1000000000000<k.height)=false:=by simp;omega
  have HT:=hid (Yg (n:=k.time) (by omega))
  by_cases q1:k.root.length=32
  ·have p1:((k.root.length:Int) != 32)=false:=by simp;omega
   by_cases q2:k.next.length=32
   ·have p2:((k.next.length:Int) != 32)=false:=by simp;omega
    have HW:=hid (QfL hr (by omega))
    clear hr q1 q2
    go_enter Tryz.func71,Tryz.ntmps71
    go_wp2_with (go_at_call 97;refine (Yd _ _).mono ?_;rintro e w' ⟨rfl,rfl⟩;rw [HT.out])
    go_ret
    exact ⟨by rw [HW.out];first | done | rfl,HB0.out⟩
   ·have p2:((k.next.length:Int) != 32)=true:=by simp;omega
    have HW:=hid (Qaa hr (.inr q2))
    clear hr q1 q2
    go_enter Tryz.func71,Tryz.ntmps71
    go_wp2_with (go_at_call 97;refine (Yd _ _).mono ?_;rintro e w' ⟨rfl,rfl⟩;rw [HT.out])
    go_ret
    exact ⟨by rw [HW.out];first | done | rfl,HB0.out⟩
  ·have p1:((k.root.length:Int) != 32)=true:=by simp;omega
   have HW:=hid (Qaa hr (.inl q1))
   clear hr q1
   go_enter Tryz.func71,Tryz.ntmps71
   go_wp2_with (go_at_call 97;refine (Yd _ _).mono ?_;rintro e w' ⟨rfl,rfl⟩;rw [HT.out])
   go_ret
   exact ⟨by rw [HW.out];first | done | rfl,HB0.out⟩
def QeG (f:FuncId):Prop:=∀ (c:Cl) (v:Value) (N:Nat) (w:World),ClV w N v c→N≤w.heap.size→c.fits →
 Calls Tryz.prog f #[v] w fun e w'=>e=.returned (.int .i64 (Qg c))∧Below w.heap.size w w'
theorem QeQ:QeG 43:=by
 intro c v N w hv hN hfit
 obtain ⟨kv,rfl,hk⟩:=hv
 obtain ⟨f1,f2,f3⟩:=hfit
 obtain ⟨oa,ca,rfl,hca⟩:=hk.shape
 have HK:=hid hk
 clear hk f3
 obtain ⟨w0,hw0⟩:∃ w0,w.alloc (.cells #[.string c.chain,.int .i64 c.trust,.bool c.frozen,.slice oa c.known.length ca] 72)=w0:=⟨_,rfl⟩
 have hb0:=bof hw0
 have HB0:=hid hb0
 have hr0:=(show Row w0 w.heap.size 72 [.string c.chain,.int .i64 c.trust,.bool c.frozen,.slice oa c.known.length ca] by rw [← hw0];exact Row.new _ _ _)
 have HR0:=hid hr0
 have k0:=hr0.cell 0
 have k1:=hr0.cell 1
 have k3:=hr0.cell 3
 have hsz0:w0.heap.size=w.heap.size+1:=by rw [← hw0];simp
 have HSZ0:=hid hsz0
 clear hr0 hb0 hsz0
 by_cases hn:JI c.chain=true
 ·by_cases ht:c.trust<1∨1000000000000<c.trust
  ·have HW:=hid (Qd9 hn ht)
   by_cases r1:c.trust<1
   ·have e1:decide (c.trust<1)=true:=by simpa using r1
    clear ht
    go_enter Tryz.func43,Tryz.ntmps43
    go_wp2_with (go_at_call 39;refine (Jj _ _ f1).mono ?_;rintro e w' ⟨rfl,rfl⟩)
    go_ret
    exact ⟨by rw [HW.out];first | done | rfl,HB0.out⟩
   ·have e1:decide (c.trust<1)=false:=by simp;omega
    have e2:decide (1000000000000<c.trust)=true:=by simp;omega
    clear ht
    go_enter Tryz.func43,Tryz.ntmps43
    go_wp2_with (go_at_call 39;refine (Jj _ _ f1).mono ?_;rintro e w' ⟨rfl,rfl⟩)
    go_ret
    exact ⟨by rw [HW.out];first | done | rfl,HB0.out⟩
  ·have e1:decide (c.trust<1)=false:=by simp;omega
   have e2:decide (1000000000000<c.trust)=false:=by simp;omega
   by_cases hm:c.known.length<1∨30<c.known.length
   ·have HW:=hid (Qea hn ht hm)
    by_cases r1:c.known.length<1
    ·have e3:decide ((c.known.length:Int)<1)=true:=by simp;omega
     clear ht hm
     go_enter Tryz.func43,Tryz.ntmps43
     go_wp2_with (go_at_call 39;refine (Jj _ _ f1).mono ?_;rintro e w' ⟨rfl,rfl⟩)
     go_ret
     exact ⟨by rw [HW.out];first | done | rfl,HB0.out⟩
    ·have e3:decide ((c.known.length:Int)<1)=false:=by simp;omega
     have e4:decide (30<(c.known.length:Int))=true:=by simp;omega
     clear ht hm
     go_enter Tryz.func43,Tryz.ntmps43
     go_wp2_with (go_at_call 39;refine (Jj _ _ f1).mono ?_;rintro e w' ⟨rfl,rfl⟩)
     go_ret
     exact ⟨by rw [HW.out];first | done | rfl,HB0.out⟩
   ·have e3:decide ((c.known.length:Int)<1)=false:=by simp;omega
    have e4:decide (30<(c.known.length:Int))=false:=by simp;omega
    have HW:=hid (Qdo hn ht hm)
    have h30:c.known.length≤30:=by omega
    clear ht hm
    generalize hnn:c.known.length=n at *
    have HN:=hid hnn
    clear hnn
    generalize hl:c.known=l at *
    clear hl
    go_enter Tryz.func43,Tryz.ntmps43
    go_wp2_with (go_at_call 39;refine (Jj _ _ f1).mono ?_;rintro e w' ⟨rfl,hw'⟩;obtain rfl:=hw'.symm)
    go_loopw [3,4,5,34] (fun _ _ _ i wr=>∃ k:Nat,k≤n∧i=.int .i64 (k:Int)∧Hid (Below w0.heap.size w0 wr∧Qg c=QaB (Yf l k) (l.drop k))) (fun _ _ _ i _=>n-(intOf i).toNat)
    case atStart=>exact ⟨0,by omega,rfl,hid ⟨Below.refl _ _,HW.out⟩⟩
    case round =>
     obtain ⟨k,hk,rfl,HT⟩:=hrel
     have hszr:=HT.out.1.size
     have HBW:=hid (HB0.out.trans (HT.out.1.mono HB0.out.size))
     have hszw:=HB0.out.size
     by_cases hlt:k<n
     ·obtain ⟨x,hx⟩:∃ x,l[k]?=some x:=⟨l[k]'(by rw [HN.out];exact hlt),List.getElem?_eq_getElem _⟩
      obtain ⟨b,o,rfl,hcells⟩:=HK.out.spot (by omega)
      obtain ⟨hbN,vr,vn,d0,d1,d2,d3,b2,b3⟩:=hcells k x hx
      obtain ⟨o2,c2,rfl,_⟩:=b2.shape
      obtain ⟨o3,c3,rfl,_⟩:=b3.shape
      have hbl:b<w.heap.size:=by omega
      have f0:=(HBW.out.cell (p:=⟨b,o+k*4,none⟩) hbl).trans d0
      have f1:=(HBW.out.cell (p:=⟨b,o+k*4+1,none⟩) hbl).trans d1
      have f2:=(HBW.out.cell (p:=⟨b,o+k*4+2,none⟩) hbl).trans d2
      have f3:=(HBW.out.cell (p:=⟨b,o+k*4+3,none⟩) hbl).trans d3
      have HST:=hid (QgT l k x hx)
      have hlt':(k:Int)<(n:Int):=by omega
      obtain ⟨w2,hw2⟩:∃ w2,wr.alloc (.cells #[.int .i64 x.height,.int .i64 x.time,.slice o2 x.root.length c2,.slice o3 x.next.length c3] 114)=w2:=⟨_,rfl⟩
      have hbr2:=bof hw2
      have HB2:=hid (HT.out.1.trans (hbr2.mono hszr))
      have HBW2:=hgo HBW hbr2
      have hrow2:Row w2 wr.heap.size 114 [.int .i64 x.height,.int .i64 x.time,.slice o2 x.root.length c2,.slice o3 x.next.length c3]:=by rw [← hw2];exact Row.new _ _ _
      have HR2:=hid hrow2
      have q0:=hrow2.cell 0
      have q1:=hrow2.cell 1
      have q2:=hrow2.cell 2
      have q3:=hrow2.cell 3
      have HW2:=hid hw2
      have HWK:=hid (Qds x (.agg #[.int .i64 x.height,.int .i64 x.time,.slice o2 x.root.length c2,.slice o3 x.next.length c3]) N w2 ⟨_,_,rfl,b2.below (HBW2.out.mono hN),b3.below (HBW2.out.mono hN)⟩)
      clear d0 d1 d2 d3 hbr2 hrow2 hw2 b2 b3 hw0
      cases k with
      | zero =>
       have f0':wr.cell? ⟨b,o,none⟩=some (.int .i64 x.height):=by simpa using f0
       have f1':wr.cell? ⟨b,o+1,none⟩=some (.int .i64 x.time):=by simpa using f1
       have f2':wr.cell? ⟨b,o+2,none⟩=some (.slice o2 x.root.length c2):=by simpa using f2
       have f3':wr.cell? ⟨b,o+3,none⟩=some (.slice o3 x.next.length c3):=by simpa using f3
       clear hcells
       by_cases hwk:Jc x=0
       ·have HV2:=hid (show Qg c=QaB (Yf l 1) (l.drop 1) by rw [HT.out.2,HST.out,if_neg (by omega),if_neg (by simp [Qcj,Zn])])
        have HWZ:=hid hwk
        clear hwk
        go_wp2_with fail
        rw [HW2.out]
        go_wp2_with fail
        refine HWK.out.mono ?_
        rintro e w3 ⟨rfl,hb3⟩
        rw [HWZ.out]
        have HB3:=hgo HB2 hb3
        clear hb3
        go_wp2_with fail
        go_quiet (fail)
        go_wp2
        go_roundw
        case rel=>exact ⟨1,by omega,by go_num,hid ⟨HB3.out.trans (QF _ _ _),HV2.out⟩⟩
        case measure=>simp [intOf];omega
       ·have HV2:=hid (show Qg c=Jc x by rw [HT.out.2,HST.out,if_pos hwk])
        have g1:(Jc x != 0)=true:=by simpa using hwk
        clear hwk
        generalize Jc x=z at *
        go_wp2_with fail
        rw [HW2.out]
        go_wp2_with fail
        refine HWK.out.mono ?_
        rintro e w3 ⟨rfl,hb3⟩
        have HB3:=hgo HBW2 hb3
        clear hb3
        go_wp2
        go_ret
        exact ⟨by rw [HV2.out];first | done | rfl,HB3.out⟩
      | succ j =>
       by_cases hwk:Jc x=0
       ·obtain ⟨y,hy⟩:∃ y,l[j]?=some y:=⟨l[j]'(by rw [HN.out];omega),List.getElem?_eq_getElem _⟩
        obtain ⟨_,_,_,t0,_⟩:=hcells j y hy
        have HPV:=hid (QaG l j y hy)
        have hj1:((j+1:Nat):Int)-1=(j:Int):=by omega
        have hj2:IntKind.i64.wrap (((j+1:Nat):Int)-1)=(j:Int):=by rw [hj1];simp [IntKind.wrap,IntKind.bits,IntKind.signed];split <;> omega
        have hjn:(j:Int)<(n:Int):=by omega
        have e5:decide ((0:Int)<((j+1:Nat):Int))=true:=decide_eq_true (by omega)
        have HT0:=hid t0
        have HWZ:=hid hwk
        have HST2:=hid (HST.out.trans (if_neg (by omega)))
        clear hcells hy t0 hwk
        by_cases hle:x.height≤y.height
        ·have g5:decide (x.height≤y.height)=true:=by simpa using hle
         have HV2:=hid (show Qg c=2 by rw [HT.out.2,HST2.out,HPV.out,if_pos (by simpa [Zn] using hle)])
         go_wp2_with fail
         rw [HW2.out]
         go_wp2_with fail
         refine HWK.out.mono ?_
         rintro e w3 ⟨rfl,hb3⟩
         rw [HWZ.out]
         have HB3:=hgo HB2 hb3
         have HBW3:=hgo HBW2 hb3
         have s0:=(HR2.out.below hb3 HR2.out.lt).cell 0
         have s3:=(rg HR0 HB3).cell 3
         have t0':=(HBW3.out.cell (p:=⟨b,o+j*4,none⟩) hbl).trans HT0.out
         clear hb3
         go_wp2_with fail
         go_quiet (fail)
         go_wp2
         go_ret
         exact ⟨by rw [HV2.out];first | done | rfl,HBW3.out.trans (QF _ _ _)⟩
        ·have g5:decide (x.height≤y.height)=false:=by simpa using hle
         have HV2:=hid (show Qg c=QaB (Yf l (j+2)) (l.drop (j+2)) by rw [HT.out.2,HST2.out,HPV.out,if_neg (by simpa [Zn] using hle)])
         go_wp2_with fail
         rw [HW2.out]
         go_wp2_with fail
         refine HWK.out.mono ?_
         rintro e w3 ⟨rfl,hb3⟩
         rw [HWZ.out]
         have HB3:=hgo HB2 hb3
         have HBW3:=hgo HBW2 hb3
         have s0:=(HR2.out.below hb3 HR2.out.lt).cell 0
         have s3:=(rg HR0 HB3).cell 3
         have t0':=(HBW3.out.cell (p:=⟨b,o+j*4,none⟩) hbl).trans HT0.out
         clear hb3
         go_wp2_with fail
         go_quiet (fail)
         go_wp2
         go_roundw
         case rel=>exact ⟨j+2,by omega,by go_num,hid ⟨HB3.out.trans (QF _ _ _),HV2.out⟩⟩
         case measure=>simp [intOf];omega
       ·have HV2:=hid (show Qg c=Jc x by rw [HT.out.2,HST.out,if_pos hwk])
        have g1:(Jc x != 0)=true:=by simpa using hwk
        clear hwk hcells
        generalize Jc x=z at *
        go_wp2_with fail
        rw [HW2.out]
        go_wp2_with fail
        refine HWK.out.mono ?_
        rintro e w3 ⟨rfl,hb3⟩
        have HB3:=hgo HBW2 hb3
        clear hb3
        go_wp2
        go_ret
        exact ⟨by rw [HV2.out];first | done | rfl,HB3.out⟩
     ·have hge:decide ((k:Int)<(n:Int))=false:=by simp;omega
      have HV2:=hid (show Qg c=0 by rw [HT.out.2,Qe3 l k (by rw [HN.out];omega)])
      go_wp2
      go_ret
      exact ⟨by rw [HV2.out];first | done | rfl,HBW.out⟩
 ·have hn':JI c.chain=false:=by simpa using hn
  have HW:=hid (Qeb hn')
  clear hn
  go_enter Tryz.func43,Tryz.ntmps43
  go_wp2_with (go_at_call 39;refine (Jj _ _ f1).mono ?_;rintro e w' ⟨rfl,rfl⟩)
  go_ret
  exact ⟨by rw [HW.out];first | done | rfl,HB0.out⟩
theorem QkT (a b:Int):(a == b)=decide (a=b):=by rw [Bool.eq_iff_iff];simp
theorem Qhm (k:Kn) (h:Int) (g:Nat) (v:Value) (N:Nat) (w:World) (hv:KnV w N v k) (hc:w.cell? ⟨g,0,none⟩=some (.int .i64 h)) :
  Calls Tryz.prog 124 #[v,.pointer (some ⟨g,0,none⟩)] w fun e w'=>e=.returned (.bool (decide (k.height=h)))∧Below w.heap.size w w':=by
 obtain ⟨rv,nv,rfl,h1,h2⟩:=hv
 obtain ⟨o1,c1,rfl,_⟩:=h1.shape
 obtain ⟨o2,c2,rfl,_⟩:=h2.shape
 clear h1 h2
 obtain ⟨w0,hw0⟩:∃ w0,w.alloc (.cells #[.int .i64 k.height,.int .i64 k.time,.slice o1 k.root.length c1,.slice o2 k.next.length c2] 114)=w0:=⟨_,rfl⟩
 have hb0:=bof hw0
 have HB0:=hid hb0
 have hr0:=(show Row w0 w.heap.size 114 [.int .i64 k.height,.int .i64 k.time,.slice o1 k.root.length c1,.slice o2 k.next.length c2] by rw [← hw0];exact Row.new _ _ _)
 have k0:=hr0.cell 0
 have hc0:=(hb0.cell (p:=⟨g,0,none⟩) (block_lt_of_cell hc)).trans hc
 clear hr0 hb0 hc
 go_enter Tryz.func124,Tryz.ntmps124
 go_wp2
 go_ret
 exact ⟨by rw [← QkT];first | done | rfl,HB0.out⟩
theorem QdS {l:List Kn} {h:Int} {j:Nat} {k:Kn} (hno:∀ x∈l.take j,x.height≠h) (hk:l[j]?=some k) (e:k.height=h):atK l h=some k:=by
 obtain ⟨hj,rfl⟩:=List.getElem?_eq_some_iff.1 hk
 unfold atK
 have hl:l=l.take j ++ l[j] :: l.drop (j+1):=by rw [← List.drop_eq_getElem_cons hj,List.take_append_drop]
 rw [show l.find? (fun k=>decide (k.height=h))=(l.take j ++ l[j] :: l.drop (j+1)).find? (fun k=>decide (k.height=h)) from congrArg _ hl]
 rw [List.find?_append,List.find?_eq_none.2 (fun x hx=>by simpa using hno x hx),List.find?_cons_of_pos (by simpa using e)]
 rfl
def QkS (l:List Kn) (h:Int) (i:Int):Prop:=(i = -1∧atK l h=none)∨∃ (j:Nat) (k:Kn),i=(j:Int)∧l[j]?=some k∧atK l h=some k
theorem QeX (l:List Kn) (h:Int) (g:Nat) (v:Value) (N:Nat) (w:World) (hN:N≤w.heap.size) (hv:Js w N v l) (hlen:l.length<2305843009213693952) (hc:w.cell? ⟨g,0,none⟩=some (.int .i64 h)) :
  Calls Tryz.prog 123 #[v,.func (.func 124) #[] #[.pointer (some ⟨g,0,none⟩)]] w fun e w'=>Below w.heap.size w w'∧∃ i:Int,e=.returned (.int .i64 i)∧QkS l h i:=by
 obtain ⟨oa,ca,rfl,hca⟩:=hv.shape
 have HL:=hid hv
 have HC:=hid hc
 have hgl:=block_lt_of_cell hc
 clear hv hc
 generalize hn:l.length=n at *
 have HN:=hid hn
 clear hn
 go_enter Tryz.func123,Tryz.ntmps123
 go_wp2_with fail
 go_loopw [5,8] (fun _ s8 wr=>∃ k:Nat,k≤n∧s8=.int .i64 (k:Int)∧Hid (Below w.heap.size w wr∧∀ x∈l.take k,x.height≠h)) (fun _ s8 _=>n-(intOf s8).toNat)
 case atStart=>exact ⟨0,Nat.zero_le _,rfl,hid ⟨Below.refl _ _,by simp⟩⟩
 case round =>
  obtain ⟨k,hk,rfl,HR⟩:=hrel
  have hszr:=HR.out.1.size
  by_cases hlt:k<n
  ·have hlt':(k:Int)<(n:Int):=by omega
   obtain ⟨x,hx⟩:∃ x,l[k]?=some x:=⟨l[k]'(by rw [HN.out];exact hlt),List.getElem?_eq_getElem _⟩
   obtain ⟨b,o,rfl,hcells⟩:=HL.out.spot (by omega)
   obtain ⟨hbN,vr,vn,d0,d1,d2,d3,b2,b3⟩:=hcells k x hx
   obtain ⟨o2,c2,rfl,_⟩:=b2.shape
   obtain ⟨o3,c3,rfl,_⟩:=b3.shape
   have hbl:b<w.heap.size:=by omega
   have f0:=(HR.out.1.cell (p:=⟨b,o+k*4,none⟩) hbl).trans d0
   have f1:=(HR.out.1.cell (p:=⟨b,o+k*4+1,none⟩) hbl).trans d1
   have f2:=(HR.out.1.cell (p:=⟨b,o+k*4+2,none⟩) hbl).trans d2
   have f3:=(HR.out.1.cell (p:=⟨b,o+k*4+3,none⟩) hbl).trans d3
   have HF:=hid (Qhm x h g (.agg #[.int .i64 x.height,.int .i64 x.time,.slice o2 x.root.length c2,.slice o3 x.next.length c3]) N wr ⟨_,_,rfl,b2.below (HR.out.1.mono hN),b3.below (HR.out.1.mono hN)⟩ ((HR.out.1.cell (p:=⟨g,0,none⟩) hgl).trans HC.out))
   have HX:=hid hx
   clear hcells d0 d1 d2 d3 b2 b3 hx
   by_cases he:x.height=h
   ·have HE:=hid he
    rw [decide_eq_true he] at HF
    clear he
    go_wp2_with fail
    refine HF.out.mono ?_
    rintro e w5 ⟨rfl,hb5⟩
    have HB5:=hid (HR.out.1.trans (hb5.mono hszr))
    clear hb5
    go_wp2
    go_ret
    exact ⟨HB5.out,_,rfl,.inr ⟨k,x,rfl,HX.out,QdS HR.out.2 HX.out HE.out⟩⟩
   ·have HE:=hid he
    rw [decide_eq_false he] at HF
    have HTK:=hid (show ∀ y∈l.take (k+1),y.height≠h from fun y hy=>by
     rw [List.take_add_one,HX.out] at hy
     rcases List.mem_append.1 hy with hy | hy
     ·exact HR.out.2 y hy
     ·obtain rfl:y=x:=by simpa using hy
      exact HE.out)
    clear he
    go_wp2_with fail
    refine HF.out.mono ?_
    rintro e w5 ⟨rfl,hb5⟩
    have HB5:=hid (HR.out.1.trans (hb5.mono hszr))
    clear hb5
    go_wp2
    go_roundw
    case rel=>exact ⟨k+1,by omega,by go_num,hid ⟨HB5.out,HTK.out⟩⟩
    case measure=>simp [intOf];omega
  ·have hge:decide ((k:Int)<(n:Int))=false:=by simp;omega
   go_wp2
   go_ret
   refine ⟨HR.out.1,_,rfl,.inl ⟨rfl,Qh5 fun x hx=>HR.out.2 x ?_⟩⟩
   rw [List.take_of_length_le (by rw [HN.out];omega)]
   exact hx
def QbB (l:List Kn) (h:Int):Kn:=(atK l h).getD Kn.none
theorem Zi {l:List Kn} {h:Int} {k:Kn} (e:atK l h=some k):QbB l h=k:=by unfold QbB;rw [e];rfl
theorem QdX {l:List Kn} {h:Int} (e:atK l h=none):QbB l h=Kn.none:=by unfold QbB;rw [e];rfl
def AtC (f:FuncId):Prop:=∀ (c:Cl) (h:Int) (v:Value) (N:Nat) (w:World),ClV w N v c→N≤w.heap.size→c.fits →
 Calls Tryz.prog f #[v,.int .i64 h] w fun e w'=>Below w.heap.size w w'∧∃ o1 c1 o2 c2,e=.returned (.tuple #[.agg #[.int .i64 (QbB c.known h).height,.int .i64 (QbB c.known h).time,.slice o1 (QbB c.known h).root.length c1,.slice o2 (QbB c.known h).next.length c2],.bool (atK c.known h).isSome])∧Bytes w' w'.heap.size (.slice o1 (QbB c.known h).root.length c1) (QbB c.known h).root∧Bytes w' w'.heap.size (.slice o2 (QbB c.known h).next.length c2) (QbB c.known h).next
theorem QkF:AtC 111:=by
 intro c h v N w hv hN hfit
 obtain ⟨kv,rfl,hk⟩:=hv
 obtain ⟨f1,f2,f3⟩:=hfit
 obtain ⟨oa,ca,rfl,hca⟩:=hk.shape
 obtain ⟨w0,hw0⟩:∃ w0,((w.alloc (.cells #[.string c.chain,.int .i64 c.trust,.bool c.frozen,.slice oa c.known.length ca] 72)).alloc (.cells #[.int .i64 h] 3)).alloc (.cells #[.int .i64 0,.int .i64 0,.slice none 0 0,.slice none 0 0] 114)=w0:=⟨_,rfl⟩
 have hb0:Below w.heap.size w w0:=by rw [← hw0];exact (((Below.refl _ _).alloc (Nat.le_refl _) _).alloc (by simp) _).alloc (by simp;omega) _
 have hra:Row (w.alloc (.cells #[.string c.chain,.int .i64 c.trust,.bool c.frozen,.slice oa c.known.length ca] 72)) w.heap.size 72 [.string c.chain,.int .i64 c.trust,.bool c.frozen,.slice oa c.known.length ca]:=Row.new _ _ _
 have hr0:Row w0 w.heap.size 72 [.string c.chain,.int .i64 c.trust,.bool c.frozen,.slice oa c.known.length ca]:=by rw [← hw0];exact (hra.alloc _).alloc _
 have hr1:Row w0 (w.heap.size+1) 3 [.int .i64 h]:=by
  rw [← hw0]
  have:=Row.new (w.alloc (.cells #[.string c.chain,.int .i64 c.trust,.bool c.frozen,.slice oa c.known.length ca] 72)) 3 [.int .i64 h]
  simp only [World.size_alloc] at this
  exact this.alloc _
 have hr2:Row w0 (w.heap.size+1+1) 114 [.int .i64 0,.int .i64 0,.slice none 0 0,.slice none 0 0]:=by
  rw [← hw0]
  have:=Row.new ((w.alloc (.cells #[.string c.chain,.int .i64 c.trust,.bool c.frozen,.slice oa c.known.length ca] 72)).alloc (.cells #[.int .i64 h] 3)) 114 [.int .i64 0,.int .i64 0,.slice none 0 0,.slice none 0 0]
  simp only [World.size_alloc] at this
  exact this
 have HI:=hid (QeX c.known h (w.heap.size+1) _ N w0 (Nat.le_trans hN hb0.size) (hk.below (hb0.mono hN)) f2 (hr1.cell 0))
 have HK:=hid hk
 have HB0:=hid hb0
 have HR0:=hid hr0
 have HR2:=hid hr2
 have k3:=hr0.cell 3
 have HW0:=hid hw0
 clear hk hb0 hr0 hr1 hr2 hra f3
 generalize hnn:c.known.length=n at *
 have HN:=hid hnn
 clear hnn
 clear hw0
 go_enter Tryz.func111,Tryz.ntmps111
 go_wp2_with fail
 rw [HW0.out]
 refine HI.out.mono ?_
 rintro e w1 ⟨hb1,i,rfl,hix⟩
 have HB1:=hgo HB0 hb1
 have r3:=(HR0.out.below hb1 HR0.out.lt).cell 3
 have HR21:=rgo HR2 hb1
 obtain ⟨⟨y0,y1,y2,y3⟩,z0,z1,z2,z3⟩:=HR21.out.four
 clear hb1 k3
 rcases hix with ⟨rfl,hno⟩ | ⟨j,k,rfl,hj,hat⟩
 ·have HNO:=hid hno
  have e1:decide ((-1:Int)<0)=true:=by decide
  clear hno
  go_wp2
  have hrz:=Zy HR21.out (.int .i64 0) (.int .i64 0) (.slice none 0 0) (.slice none 0 0)
  obtain ⟨⟨u0,u1,u2,u3⟩,_⟩:=hrz.four
  have hbz:=JV HB1.out (show w.heap.size≤w.heap.size+1+1 by omega) (.int .i64 0) (.int .i64 0) (.slice none 0 0) (.slice none 0 0)
  unfold Qb7 at u0 u1 u2 u3
  refine bodyPost_ret (v:=.tuple #[.agg #[.int .i64 0,.int .i64 0,.slice none 0 0,.slice none 0 0],.bool false]) (by simp [results,Tryz.results111,go_sem,u0,u1,u2,u3]) rfl ⟨hbz,none,0,none,0,?_⟩
  rw [QdX HNO.out,HNO.out]
  exact ⟨rfl,.inl ⟨rfl,rfl⟩,.inl ⟨rfl,rfl⟩⟩
 ·have hjn:j<n:=by rw [← HN.out];exact (List.getElem?_eq_some_iff.1 hj).1
  obtain ⟨b,o,rfl,hcells⟩:=HK.out.spot (by omega)
  obtain ⟨hbN,vr,vn,d0,d1,d2,d3,b2,b3⟩:=hcells j k hj
  obtain ⟨o2,c2,rfl,_⟩:=b2.shape
  obtain ⟨o3,c3,rfl,_⟩:=b3.shape
  have hbl:b<w.heap.size:=by omega
  have f0:=(HB1.out.cell (p:=⟨b,o+j*4,none⟩) hbl).trans d0
  have f1:=(HB1.out.cell (p:=⟨b,o+j*4+1,none⟩) hbl).trans d1
  have f2:=(HB1.out.cell (p:=⟨b,o+j*4+2,none⟩) hbl).trans d2
  have f3:=(HB1.out.cell (p:=⟨b,o+j*4+3,none⟩) hbl).trans d3
  have HAT:=hid hat
  have HBY:=hid (And.intro b2 b3)
  have e1:decide ((j:Int)<0)=false:=by simp
  have e2:(j:Int)<(n:Int):=by omega
  clear hcells hj hat d0 d1 d2 d3 b2 b3
  go_wp2
  have hrz:=Zy HR21.out (.int .i64 k.height) (.int .i64 k.time) (.slice o2 k.root.length c2) (.slice o3 k.next.length c3)
  obtain ⟨⟨u0,u1,u2,u3⟩,_⟩:=hrz.four
  have hbz:=JV HB1.out (show w.heap.size≤w.heap.size+1+1 by omega) (.int .i64 k.height) (.int .i64 k.time) (.slice o2 k.root.length c2) (.slice o3 k.next.length c3)
  have w2:=Qao (g:=w.heap.size+1+1) (a:=.int .i64 k.height) (b:=.int .i64 k.time) (c:=.slice o2 k.root.length c2) (d:=.slice o3 k.next.length c3) (HBY.out.1.below (HB1.out.mono hN)) (by omega)
  have w3:=Qao (g:=w.heap.size+1+1) (a:=.int .i64 k.height) (b:=.int .i64 k.time) (c:=.slice o2 k.root.length c2) (d:=.slice o3 k.next.length c3) (HBY.out.2.below (HB1.out.mono hN)) (by omega)
  unfold Qb7 at u0 u1 u2 u3
  refine bodyPost_ret (v:=.tuple #[.agg #[.int .i64 k.height,.int .i64 k.time,.slice o2 k.root.length c2,.slice o3 k.next.length c3],.bool true]) (by simp [results,Tryz.results111,go_sem,u0,u1,u2,u3]) rfl ⟨hbz,o2,c2,o3,c3,?_⟩
  rw [Zi HAT.out,HAT.out]
  exact ⟨rfl,w2,w3⟩
theorem Qcs (k:Kn) (v:Value) (N:Nat) (w:World) (hv:KnV w N v k) (hN:N≤w.heap.size) (hf:k.fits) :
  Calls Tryz.prog 101 #[v] w fun e w'=>Below w.heap.size w w'∧∃ o1 c1 o2 c2,e=.returned (.agg #[.int .i64 k.height,.int .i64 k.time,.slice o1 k.root.length c1,.slice o2 k.next.length c2])∧Qq w' w.heap.size (.slice o1 k.root.length c1) k.root∧Qq w' w.heap.size (.slice o2 k.next.length c2) k.next:=by
 obtain ⟨rv,nv,rfl,h1,h2⟩:=hv
 obtain ⟨o1,c1,rfl,_⟩:=h1.shape
 obtain ⟨o2,c2,rfl,_⟩:=h2.shape
 obtain ⟨w0,hw0⟩:∃ w0,(w.alloc (.cells #[.int .i64 k.height,.int .i64 k.time,.slice o1 k.root.length c1,.slice o2 k.next.length c2] 114)).alloc (.cells #[.int .i64 0,.int .i64 0,.slice none 0 0,.slice none 0 0] 114)=w0:=⟨_,rfl⟩
 have hb0:Below w.heap.size w w0:=by rw [← hw0];exact ((Below.refl _ _).alloc (Nat.le_refl _) _).alloc (by simp) _
 have hr0:Row w0 w.heap.size 114 [.int .i64 k.height,.int .i64 k.time,.slice o1 k.root.length c1,.slice o2 k.next.length c2]:=by rw [← hw0];exact (Row.new _ _ _).alloc _
 have hr1:Row w0 (w.heap.size+1) 114 [.int .i64 0,.int .i64 0,.slice none 0 0,.slice none 0 0]:=by
  rw [← hw0]
  have:=Row.new (w.alloc (.cells #[.int .i64 k.height,.int .i64 k.time,.slice o1 k.root.length c1,.slice o2 k.next.length c2] 114)) 114 [.int .i64 0,.int .i64 0,.slice none 0 0,.slice none 0 0]
  simp only [World.size_alloc] at this
  exact this
 have HB0:=hid hb0
 have HR0:=hid hr0
 have HR1:=hid hr1
 have HCK:=hid (show ∀ wx,Below w0.heap.size w0 wx→Calls Tryz.prog 103 #[.slice o1 k.root.length c1] wx fun e w'=>Below wx.heap.size wx w'∧∃ v,e=.returned v∧Qq w' wx.heap.size v k.root from fun wx hx=>Qbe k.root _ N wx (h1.below ((hb0.trans (hx.mono hb0.size)).mono hN)) hf.1)
 have HCV:=hid (show ∀ wx,Below w0.heap.size w0 wx→Calls Tryz.prog 103 #[.slice o2 k.next.length c2] wx fun e w'=>Below wx.heap.size wx w'∧∃ v,e=.returned v∧Qq w' wx.heap.size v k.next from fun wx hx=>Qbe k.next _ N wx (h2.below ((hb0.trans (hx.mono hb0.size)).mono hN)) hf.2)
 have HRX:=hid (show ∀ wx,Below w0.heap.size w0 wx→Row wx w.heap.size 114 [.int .i64 k.height,.int .i64 k.time,.slice o1 k.root.length c1,.slice o2 k.next.length c2] from fun wx hx=>hr0.below hx hr0.lt)
 have HRY:=hid (show ∀ wx,Below w0.heap.size w0 wx→Row wx (w.heap.size+1) 114 [.int .i64 0,.int .i64 0,.slice none 0 0,.slice none 0 0] from fun wx hx=>hr1.below hx hr1.lt)
 have HBD:=hid (show Below w0.heap.size w0 w0.drew from (Below.refl _ _).drew)
 obtain ⟨⟨y0,y1,y2,y3⟩,z0,z1,z2,z3⟩:=hr0.four
 have HW0:=hid hw0
 clear h1 h2 hb0 hr0 hr1 hw0
 go_enter Tryz.func101,Tryz.ntmps101
 go_wp2_with fail
 rw [HW0.out]
 go_region_with (first
  | (go_at_call_of 103 (Value.slice o1 k.root.length c1);refine (HCK.out _ HBD.out).mono ?_;rintro e w6 ⟨hb6,v6,rfl,hown6⟩;obtain ⟨o6,c6,rfl,hc6⟩:=hown6.shape;have HB6:=hid (HBD.out.trans hb6);have HK6:=hid hown6;obtain ⟨⟨x0,x1,x2,x3⟩,_⟩:=(HRX.out _ HB6.out).four;clear hb6 hown6 hc6)
  | (go_at_call_of 103 (Value.slice o2 k.next.length c2);refine (HCV.out _ HB6.out).mono ?_;rintro e w7 ⟨hb7,v7,rfl,hown7⟩;obtain ⟨o7,c7,rfl,hc7⟩:=hown7.shape;have HB7:=hid (HB6.out.trans (hb7.mono HB6.out.size));have HK7:=hid (show Qq w7 w0.heap.size (.slice o6 k.root.length c6) k.root from Jk HK6.out hb7);have HV7:=hid hown7;have HR7:=hid (HRX.out w7 HB7.out);have HRR7:=hid (HRY.out w7 HB7.out);obtain ⟨⟨t0,t1,t2,t3⟩,s0,s1,s2,s3⟩:=HR7.out.four;clear hb7 hown7 hc7))
 all_goals
  obtain ⟨w8,hw8⟩:∃ w8,(w7.setCell ⟨w.heap.size,2,none⟩ (.slice o6 k.root.length c6)).setCell ⟨w.heap.size,3,none⟩ (.slice o7 k.next.length c7)=w8:=⟨_,rfl⟩
  have hlt:=HR1.out.lt
  have hr8:Row w8 w.heap.size 114 [.int .i64 k.height,.int .i64 k.time,.slice o6 k.root.length c6,.slice o7 k.next.length c7]:=by rw [← hw8];exact (HR7.out.set 2 _).set 3 _
  have hz8:Row w8 (w.heap.size+1) 114 [.int .i64 0,.int .i64 0,.slice none 0 0,.slice none 0 0]:=by rw [← hw8];exact (HRR7.out.other _ (by simp)).other _ (by simp)
  have hb8:Below w.heap.size w w8:=by rw [← hw8];exact ((HB0.out.trans (HB7.out.mono HB0.out.size)).setCell (Nat.le_refl _) _).setCell (Nat.le_refl _) _
  have hot:∀ g,w0.heap.size≤g→w8.heap[g]?=w7.heap[g]?:=fun g hg=>by rw [← hw8,heap_setCell_other _ _ _ _ (by simp only;omega),heap_setCell_other _ _ _ _ (by simp only;omega)]
  have HK8:=hid (HK7.out.keep hot)
  have HV8:=hid (HV7.out.keep (fun g hg=>hot g (Nat.le_trans HB6.out.size hg)))
  have HZ8:=hid hz8
  have HB8:=hid hb8
  rw [hw8]
  obtain ⟨⟨p0,p1,p2,p3⟩,_⟩:=hr8.four
  obtain ⟨⟨q0,q1,q2,q3⟩,v0,v1,v2,v3⟩:=hz8.four
  clear hw8 hr8 hz8 hb8 hot
  go_wp2
  have hrz:=Zy HZ8.out (.int .i64 k.height) (.int .i64 k.time) (.slice o6 k.root.length c6) (.slice o7 k.next.length c7)
  obtain ⟨⟨u0,u1,u2,u3⟩,_⟩:=hrz.four
  have hbz:=JV HB8.out (show w.heap.size≤w.heap.size+1 by omega) (.int .i64 k.height) (.int .i64 k.time) (.slice o6 k.root.length c6) (.slice o7 k.next.length c7)
  have hoz:=Qdc w8 (w.heap.size+1) (.int .i64 k.height) (.int .i64 k.time) (.slice o6 k.root.length c6) (.slice o7 k.next.length c7)
  have hk:=(HK8.out.keep (fun g hg=>hoz g (by omega))).mono HB0.out.size
  have hv:=(HV8.out.keep (fun g hg=>hoz g (by have:=HB6.out.size;omega))).mono (Nat.le_trans HB0.out.size HB6.out.size)
  unfold Qb7 at u0 u1 u2 u3
  exact bodyPost_ret (v:=.agg #[.int .i64 k.height,.int .i64 k.time,.slice o6 k.root.length c6,.slice o7 k.next.length c7]) (by simp [results,Tryz.results101,go_sem,u0,u1,u2,u3]) rfl ⟨hbz,o6,c6,o7,c7,rfl,hk,hv⟩
theorem Qgy (c:Cl) (k:Kn) (now:Int) (cv v:Value) (N:Nat) (w:World) (hc:ClV w N cv c) (hv:KnV w N v k) (h1:0≤now∧now≤1000000000000) (h2:0≤k.time∧k.time≤1000000000000) :
  Calls Tryz.prog 118 #[cv,v,.int .i64 now] w fun e w'=>e=.returned (.bool (decide (now-k.time<c.trust)))∧Below w.heap.size w w':=by
 obtain ⟨kv,rfl,hk⟩:=hc
 obtain ⟨oa,ca,rfl,_⟩:=hk.shape
 obtain ⟨rv,nv,rfl,g1,g2⟩:=hv
 obtain ⟨o1,c1,rfl,_⟩:=g1.shape
 obtain ⟨o2,c2,rfl,_⟩:=g2.shape
 clear hk g1 g2
 have hw:IntKind.i64.wrap (now-k.time)=now-k.time:=by rw [IntKind.wrap_i64];omega
 obtain ⟨w0,hw0⟩:∃ w0,(w.alloc (.cells #[.string c.chain,.int .i64 c.trust,.bool c.frozen,.slice oa c.known.length ca] 72)).alloc (.cells #[.int .i64 k.height,.int .i64 k.time,.slice o1 k.root.length c1,.slice o2 k.next.length c2] 114)=w0:=⟨_,rfl⟩
 have HB0:=hid (show Below w.heap.size w w0 by rw [← hw0];exact ((Below.refl _ _).alloc (Nat.le_refl _) _).alloc (by simp) _)
 have hr0:Row w0 w.heap.size 72 [.string c.chain,.int .i64 c.trust,.bool c.frozen,.slice oa c.known.length ca]:=by rw [← hw0];exact (Row.new _ _ _).alloc _
 have hr1:Row w0 (w.heap.size+1) 114 [.int .i64 k.height,.int .i64 k.time,.slice o1 k.root.length c1,.slice o2 k.next.length c2]:=by
  rw [← hw0]
  have:=Row.new (w.alloc (.cells #[.string c.chain,.int .i64 c.trust,.bool c.frozen,.slice oa c.known.length ca] 72)) 114 [.int .i64 k.height,.int .i64 k.time,.slice o1 k.root.length c1,.slice o2 k.next.length c2]
  simp only [World.size_alloc] at this
  exact this
 have k1:=hr0.cell 1
 have k2:=hr1.cell 1
 have HW0:=hid hw0
 clear hr0 hr1 hw0
 go_enter Tryz.func118,Tryz.ntmps118
 go_wp2
 go_ret
 rw [HW0.out]
 exact ⟨by first | done | rfl,HB0.out⟩
def QgI (f:FuncId):Prop:=∀ (c:Cl) (now:Int) (v:Value) (N:Nat) (w:World),ClV w N v c→N≤w.heap.size→Qg c=0→0≤now∧now≤1000000000000 →
 Calls Tryz.prog f #[v,.int .i64 now] w fun e w'=>e=.returned (.bool (QM c now))∧Below w.heap.size w w'
theorem Qav {c:Cl} (now:Int) (h:c.frozen=true):QM c now=false:=by unfold QM;rw [h];rfl
theorem Qbq {c:Cl} {now:Int} {k:Kn} {n:Nat} (h:c.frozen=false) (hn:c.known.length=n+1) (hk:c.known[n]?=some k):QM c now=decide (now-k.time<c.trust):=by
 unfold QM
 rw [h,List.getLast?_eq_getElem?,hn,Nat.add_sub_cancel,hk]
 rfl
theorem QgJ:QgI 100:=by
 intro c now v N w hv hN hc hnow
 have HCV:=hid hv
 obtain ⟨kv,rfl,hk⟩:=hv
 obtain ⟨oa,ca,rfl,hca⟩:=hk.shape
 obtain ⟨w0,hw0⟩:∃ w0,w.alloc (.cells #[.string c.chain,.int .i64 c.trust,.bool c.frozen,.slice oa c.known.length ca] 72)=w0:=⟨_,rfl⟩
 have hb0:=bof hw0
 have HB0:=hid hb0
 have hr0:Row w0 w.heap.size 72 [.string c.chain,.int .i64 c.trust,.bool c.frozen,.slice oa c.known.length ca]:=by rw [← hw0];exact Row.new _ _ _
 obtain ⟨⟨y0,y1,y2,y3⟩,_⟩:=hr0.four
 have HR0:=hid hr0
 cases hfz:c.frozen with
 | true =>
  have HA:=hid (Qav now hfz)
  rw [hfz] at y2
  have HW0:=hid hw0
  rw [hfz] at HW0
  clear hw0 hb0 hk hr0 hfz
  go_enter Tryz.func100,Tryz.ntmps100
  go_wp2_with fail
  rw [HW0.out]
  go_quiet (fail)
  go_wp2
  go_ret
  exact ⟨by rw [HA.out];first | done | rfl,HB0.out.trans (QF _ _ _)⟩
 | false =>
  obtain ⟨_,_,⟨hn1,hn2⟩,hall,_⟩:=(QaR c).1 hc
  obtain ⟨n,hn⟩:∃ n,c.known.length=n+1:=⟨c.known.length-1,by omega⟩
  obtain ⟨x,hx⟩:∃ x,c.known[n]?=some x:=⟨c.known[n]'(by omega),List.getElem?_eq_getElem _⟩
  have hxt:=((Qdr x).1 (hall x (List.mem_of_getElem? hx))).1
  obtain ⟨b,o,rfl,hcells⟩:=hk.spot (by omega)
  obtain ⟨hbN,vr,vn,d0,d1,d2,d3,b2,b3⟩:=hcells n x hx
  obtain ⟨o2,c2,rfl,_⟩:=b2.shape
  obtain ⟨o3,c3,rfl,_⟩:=b3.shape
  have hbl:b<w.heap.size:=by omega
  have f0:=(hb0.cell (p:=⟨b,o+n*4,none⟩) hbl).trans d0
  have f1:=(hb0.cell (p:=⟨b,o+n*4+1,none⟩) hbl).trans d1
  have f2:=(hb0.cell (p:=⟨b,o+n*4+2,none⟩) hbl).trans d2
  have f3:=(hb0.cell (p:=⟨b,o+n*4+3,none⟩) hbl).trans d3
  have HA:=hid (Qbq (now:=now) hfz hn hx)
  have HTR:=hid (show ∀ wx,Below w0.heap.size w0 wx→Calls Tryz.prog 118 #[.agg #[.string c.chain,.int .i64 c.trust,.bool false,.slice (some ⟨b,o,none⟩) (n+1) ca],.agg #[.int .i64 x.height,.int .i64 x.time,.slice o2 x.root.length c2,.slice o3 x.next.length c3],.int .i64 now] wx fun e w'=>e=.returned (.bool (decide (now-x.time<c.trust)))∧Below wx.heap.size wx w' from fun wx hx=>by
   have hbx:=(hb0.trans (hx.mono hb0.size)).mono hN
   have hq:ClV wx N (.agg #[.string c.chain,.int .i64 c.trust,.bool false,.slice (some ⟨b,o,none⟩) (n+1) ca]) c:=by rw [← hfz,← hn];exact HCV.out.below hbx
   exact Qgy c x now _ _ N wx hq ⟨_,_,rfl,b2.below hbx,b3.below hbx⟩ hnow (by omega))
  rw [hfz] at y2
  rw [hn] at y3
  have HW0:=hid hw0
  rw [hfz,hn] at HW0
  rw [hn]
  have e1:decide ((0:Int)<((n+1:Nat):Int))=true:=decide_eq_true (by omega)
  have hj1:((n+1:Nat):Int)-1=(n:Int):=by omega
  have hj2:IntKind.i64.wrap (((n+1:Nat):Int)-1)=(n:Int):=by rw [hj1,IntKind.wrap_i64];omega
  have hjn:(n:Int)<((n+1:Nat):Int):=by omega
  have HBD:=hid (show Below w0.heap.size w0 w0.drew from (Below.refl _ _).drew)
  generalize hm:n+1=m at *
  have e1b:decide (0<m)=true:=decide_eq_true (by omega)
  have e1c:(0:Int)<(m:Int):=by omega
  have e1d:0<m:=by omega
  have HM:=hid hm
  clear hw0 hb0 hk hr0 hfz hcells d0 d1 d2 d3 b2 b3 hall hn hx hxt hn1 hn2 hm hj1
  go_enter Tryz.func100,Tryz.ntmps100
  go_wp2_with fail
  rw [HW0.out]
  have HLT:=hid HR0.out.lt
  have HBC:=hid (show ∀ wx,Below w0.heap.size w0 wx→((wx.cell? ⟨w.heap.size,0,none⟩=some (.string c.chain)∧wx.cell? ⟨w.heap.size,1,none⟩=some (.int .i64 c.trust))∧(wx.cell? ⟨w.heap.size,2,none⟩=some (.bool false)∧wx.cell? ⟨w.heap.size,3,none⟩=some (.slice (some ⟨b,o,none⟩) m ca)))∧((wx.cell? ⟨b,o+n*4,none⟩=some (.int .i64 x.height)∧wx.cell? ⟨b,o+n*4+1,none⟩=some (.int .i64 x.time))∧(wx.cell? ⟨b,o+n*4+2,none⟩=some (.slice o2 x.root.length c2)∧wx.cell? ⟨b,o+n*4+3,none⟩=some (.slice o3 x.next.length c3))) from fun wx hx=>⟨⟨⟨(hx.cell (p:=⟨w.heap.size,0,none⟩) HLT.out).trans y0,(hx.cell (p:=⟨w.heap.size,1,none⟩) HLT.out).trans y1⟩,(hx.cell (p:=⟨w.heap.size,2,none⟩) HLT.out).trans y2,(hx.cell (p:=⟨w.heap.size,3,none⟩) HLT.out).trans y3⟩,⟨(hx.cell (p:=⟨b,o+n*4,none⟩) (Nat.lt_trans hbl HLT.out)).trans f0,(hx.cell (p:=⟨b,o+n*4+1,none⟩) (Nat.lt_trans hbl HLT.out)).trans f1⟩,(hx.cell (p:=⟨b,o+n*4+2,none⟩) (Nat.lt_trans hbl HLT.out)).trans f2,(hx.cell (p:=⟨b,o+n*4+3,none⟩) (Nat.lt_trans hbl HLT.out)).trans f3⟩)
  have s0:((w0.cell? ⟨w.heap.size,0,none⟩=some (.string c.chain)∧w0.cell? ⟨w.heap.size,1,none⟩=some (.int .i64 c.trust))∧(w0.cell? ⟨w.heap.size,2,none⟩=some (.bool false)∧w0.cell? ⟨w.heap.size,3,none⟩=some (.slice (some ⟨b,o,none⟩) m ca)))∧((w0.cell? ⟨b,o+n*4,none⟩=some (.int .i64 x.height)∧w0.cell? ⟨b,o+n*4+1,none⟩=some (.int .i64 x.time))∧(w0.cell? ⟨b,o+n*4+2,none⟩=some (.slice o2 x.root.length c2)∧w0.cell? ⟨b,o+n*4+3,none⟩=some (.slice o3 x.next.length c3))):=⟨⟨⟨y0,y1⟩,y2,y3⟩,⟨f0,f1⟩,f2,f3⟩
  have s1:((w0.drew.cell? ⟨w.heap.size,0,none⟩=some (.string c.chain)∧w0.drew.cell? ⟨w.heap.size,1,none⟩=some (.int .i64 c.trust))∧(w0.drew.cell? ⟨w.heap.size,2,none⟩=some (.bool false)∧w0.drew.cell? ⟨w.heap.size,3,none⟩=some (.slice (some ⟨b,o,none⟩) m ca)))∧((w0.drew.cell? ⟨b,o+n*4,none⟩=some (.int .i64 x.height)∧w0.drew.cell? ⟨b,o+n*4+1,none⟩=some (.int .i64 x.time))∧(w0.drew.cell? ⟨b,o+n*4+2,none⟩=some (.slice o2 x.root.length c2)∧w0.drew.cell? ⟨b,o+n*4+3,none⟩=some (.slice o3 x.next.length c3))):=s0
  go_region_held3 (fun W=>((W.cell? ⟨w.heap.size,0,none⟩=some (.string c.chain)∧W.cell? ⟨w.heap.size,1,none⟩=some (.int .i64 c.trust))∧(W.cell? ⟨w.heap.size,2,none⟩=some (.bool false)∧W.cell? ⟨w.heap.size,3,none⟩=some (.slice (some ⟨b,o,none⟩) m ca)))∧((W.cell? ⟨b,o+n*4,none⟩=some (.int .i64 x.height)∧W.cell? ⟨b,o+n*4+1,none⟩=some (.int .i64 x.time))∧(W.cell? ⟨b,o+n*4+2,none⟩=some (.slice o2 x.root.length c2)∧W.cell? ⟨b,o+n*4+3,none⟩=some (.slice o3 x.next.length c3)))) (first | assumption) (first
   | (go_at_call 118;refine (HTR.out _ HBD.out).mono ?_;rintro e w5 ⟨rfl,hb5⟩;have HB5:=hid (HB0.out.trans ((HBD.out.trans hb5).mono HB0.out.size));have s5:=HBC.out w5 (HBD.out.trans hb5);clear hb5))
  all_goals
   go_wp2
   go_ret
   exact ⟨by rw [HA.out];first | done | rfl,HB5.out⟩
def Qh1 (f:FuncId):Prop:=∀ (c:Cl) (now:Int) (v:Value) (N:Nat) (w:World),ClV w N v c→N≤w.heap.size→c.fits →
 Calls Tryz.prog f #[v,.int .i64 now] w fun e w'=>e=.returned (.int .i64 (Jd c now))∧Below w.heap.size w w'
theorem Qbt {c:Cl} {now:Int} (h:Qg c≠0):Jd c now=Qg c:=by unfold Jd;rw [if_pos h]
theorem Qbs {c:Cl} {now:Int} (h:Qg c=0) (h2:now<0∨1000000000000<now):Jd c now=3:=by unfold Jd;rw [if_neg (by omega),if_pos h2]
theorem QjU:Qh1 110:=by
 intro c now v N w hv hN hfit
 have HWR:=hid (fun wx (hx:Below w.heap.size w wx)=>QeQ c v N wx (hv.below (hx.mono hN)) (Nat.le_trans hN hx.size) hfit)
 obtain ⟨kv,rfl,hk⟩:=hv
 obtain ⟨oa,ca,rfl,hca⟩:=hk.shape
 obtain ⟨w0,hw0⟩:∃ w0,w.alloc (.cells #[.string c.chain,.int .i64 c.trust,.bool c.frozen,.slice oa c.known.length ca] 72)=w0:=⟨_,rfl⟩
 have hb0:=bof hw0
 have HB0:=hid hb0
 have hr0:Row w0 w.heap.size 72 [.string c.chain,.int .i64 c.trust,.bool c.frozen,.slice oa c.known.length ca]:=by rw [← hw0];exact Row.new _ _ _
 obtain ⟨⟨y0,y1,y2,y3⟩,_⟩:=hr0.four
 have HR0:=hid hr0
 have HW0:=hid hw0
 clear hw0 hb0 hk hr0 hfit
 by_cases hc:Qg c=0
 ·have HCZ:=hid hc
  by_cases ht:now<0∨1000000000000<now
  ·have HTM:=hid (Yq ht)
   have HA:=hid (Qbs hc ht)
   clear hc ht
   go_enter Tryz.func110,Tryz.ntmps110
   go_wp2_with fail
   rw [HW0.out]
   refine (HWR.out _ HB0.out).mono ?_
   rintro e w1 ⟨rfl,hb1⟩
   rw [HCZ.out]
   have HB1:=hgo HB0 hb1
   clear hb1
   go_wp2_with (go_at_call 97;refine (Yd _ _).mono ?_;rintro e w' ⟨rfl,hw'⟩;obtain rfl:=hw'.symm;rw [HTM.out])
   go_ret
   exact ⟨by rw [HA.out];first | done | rfl,HB1.out⟩
  ·have HTM:=hid (Yg ht)
   by_cases hfz:c.frozen=true
   ·have HA:=hid (Qa6 (now:=now) hc (by omega) hfz)
    have HFZ:=hid hfz
    clear hc ht hfz
    go_enter Tryz.func110,Tryz.ntmps110
    go_wp2_with fail
    rw [HW0.out]
    refine (HWR.out _ HB0.out).mono ?_
    rintro e w1 ⟨rfl,hb1⟩
    rw [HCZ.out]
    have HB1:=hgo HB0 hb1
    have r2:=(HR0.out.below hb1 HR0.out.lt).cell 2
    simp only [HFZ.out] at r2
    clear hb1
    go_wp2_with (go_at_call 97;refine (Yd _ _).mono ?_;rintro e w' ⟨rfl,hw'⟩;obtain rfl:=hw'.symm;rw [HTM.out])
    go_ret
    exact ⟨by rw [HA.out];first | done | rfl,HB1.out⟩
   ·have hfz':c.frozen=false:=by simpa using hfz
    have HA:=hid (QdR (now:=now) hc (by omega) hfz')
    have HFZ:=hid hfz'
    clear hc ht hfz hfz'
    go_enter Tryz.func110,Tryz.ntmps110
    go_wp2_with fail
    rw [HW0.out]
    refine (HWR.out _ HB0.out).mono ?_
    rintro e w1 ⟨rfl,hb1⟩
    rw [HCZ.out]
    have HB1:=hgo HB0 hb1
    have r2:=(HR0.out.below hb1 HR0.out.lt).cell 2
    simp only [HFZ.out] at r2
    clear hb1
    go_wp2_with (go_at_call 97;refine (Yd _ _).mono ?_;rintro e w' ⟨rfl,hw'⟩;obtain rfl:=hw'.symm;rw [HTM.out])
    go_ret
    exact ⟨by rw [HA.out];first | done | rfl,HB1.out⟩
 ·have HA:=hid (Qbt (now:=now) hc)
  have e1:(Qg c != 0)=true:=by simpa using hc
  clear hc
  generalize Qg c=z at *
  go_enter Tryz.func110,Tryz.ntmps110
  go_wp2_with fail
  rw [HW0.out]
  refine (HWR.out _ HB0.out).mono ?_
  rintro e w1 ⟨rfl,hb1⟩
  have HB1:=hgo HB0 hb1
  clear hb1
  go_wp2
  go_ret
  exact ⟨by rw [HA.out];first | done | rfl,HB1.out⟩
def zKn:List Value:=[.int .i64 0,.int .i64 0,.slice none 0 0,.slice none 0 0]
theorem Qga (n:Nat) (w:World) (h:n≤1000):(Instr.makeSlice 70 (.int .i64 (n:Int)) (.int .i64 (n:Int))).run Tryz.prog w=.ok (.slice (some ⟨w.heap.size,0,none⟩) n n) (w.alloc (.cells (([]:List KnR).map YX ++ List.replicate n zKn).flatten.toArray 114)):=by
 obtain ⟨i0,hi0,hz0,hz1,hz2⟩:=info_parts Qj7
 have:=run_make (P:=Tryz.prog) w 70 114 i0 _ Tryz.underlying70 hi0 hz0 .i64 .i64 (n:Int) (n:Int) (by omega) (by omega) (by rw [hz2];omega) (by omega)
 have e:=QaF (z:=#[.int .i64 0,.int .i64 0,.slice none 0 0,.slice none 0 0]) (k:=4) rfl (by omega) n
 rw [this,hz1,List.map_nil,List.nil_append,show List.replicate n zKn=List.replicate n (#[.int .i64 0,.int .i64 0,.slice none 0 0,.slice none 0 0]:Array Value).toList from rfl,e]
 simp only [Int.toNat_natCast,Value.cells]
def Qbc (l:List Kn) (n G k:Nat) (wr:World):Prop:=∃ ps:List KnR,ps.length=k∧ps.map (·.k)=l.take k∧Row wr G 114 (ps.map YX ++ List.replicate (n-k) zKn).flatten∧∀ q∈ps,Qq wr (G+1) q.r q.k.root∧Qq wr (G+1) q.n q.k.next
theorem Qbc.below {l:List Kn} {n G k:Nat} {w w':World} (h:Qbc l n G k w) (hg:Below w.heap.size w w'):Qbc l n G k w':=by
 obtain ⟨ps,h1,h2,h3,h4⟩:=h
 exact ⟨ps,h1,h2,h3.below hg h3.lt,fun q hq=>⟨Jk (h4 q hq).1 hg,Jk (h4 q hq).2 hg⟩⟩
theorem Qbc.cells {l:List Kn} {n G k:Nat} {w:World} (h:Qbc l n G k w) (hk:k<n):w.cell? ⟨G,k*4,none⟩=some (.int .i64 0)∧w.cell? ⟨G,k*4+1,none⟩=some (.int .i64 0)∧w.cell? ⟨G,k*4+2,none⟩=some (.slice none 0 0)∧w.cell? ⟨G,k*4+3,none⟩=some (.slice none 0 0)∧∀ j,w.frozen? ⟨G,j,none⟩=false:=by
 obtain ⟨ps,h1,h2,h3,h4⟩:=h
 have hget:(ps.map YX ++ List.replicate (n-k) zKn)[k]?=some zKn:=by
  rw [List.getElem?_append_right (by simp;omega),List.length_map,h1,Nat.sub_self,List.getElem?_replicate,if_pos (by omega)]
 have hlen:∀ r∈ps.map YX ++ List.replicate (n-k) zKn,r.length=4:=fun r hr=>by
  rcases List.mem_append.1 hr with hr | hr
  ·exact Qb2 r hr
  ·rw [List.eq_of_mem_replicate hr];rfl
 have key:∀ j,j<4→w.cell? ⟨G,k*4+j,none⟩=zKn[j]?:=fun j hj=>by rw [h3.cell,ZE _ k j zKn hlen hget hj]
 exact ⟨key 0 (by omega),key 1 (by omega),key 2 (by omega),key 3 (by omega),fun j=>h3.frozen j⟩
theorem Qbc.keep {l:List Kn} {n G k:Nat} {w w':World} (h:Qbc l n G k w) (hk:∀ g,G≤g→w'.heap[g]?=w.heap[g]?):Qbc l n G k w':=by
 obtain ⟨ps,h1,h2,h3,h4⟩:=h
 refine ⟨ps,h1,h2,?_,fun q hq=>⟨(h4 q hq).1.keep (fun g hg=>hk g (by omega)),(h4 q hq).2.keep (fun g hg=>hk g (by omega))⟩⟩
 unfold Row at *
 rw [hk G (Nat.le_refl _),h3]
theorem Qbc.next {l:List Kn} {n G k:Nat} {w:World} {x:Kn} {rv nv:Value} (h:Qbc l n G k w) (hx:l[k]?=some x) (hk:k<n) (h1:Qq w (G+1) rv x.root) (h2:Qq w (G+1) nv x.next) :
  Qbc l n G (k+1) (w.setCells G (k*4) [.int .i64 x.height,.int .i64 x.time,rv,nv]):=by
 obtain ⟨ps,g1,g2,g3,g4⟩:=h
 have hgr:=Qaz G [.int .i64 x.height,.int .i64 x.time,rv,nv] (k*4) w
 have keep:∀ {v:Value} {b:List (BitVec 8)},Qq w (G+1) v b→Qq (w.setCells G (k*4) [.int .i64 x.height,.int .i64 x.time,rv,nv]) (G+1) v b:=fun {v b} ho=>by
  obtain ⟨e1,e2⟩:=ho
  refine ⟨e1,?_⟩
  rcases e2 with e2 | ⟨g,cap,cur,e3,e4,e5,e6⟩
  ·exact .inl e2
  ·exact .inr ⟨g,cap,cur,e3,e4,(hgr.block g (Array.getElem?_eq_some_iff.1 e5).1 (by simp;omega)).trans e5,e6⟩
 refine ⟨ps ++ [⟨x,rv,nv⟩],by simp [g1],?_,?_,fun q hq=>?_⟩
 ·obtain ⟨hl,rfl⟩:=List.getElem?_eq_some_iff.1 hx
  rw [List.map_append,g2,List.take_succ_eq_append_getElem hl]
  rfl
 ·have hlen:(ps.map YX ++ List.replicate (n-k) zKn).flatten.length=n*4:=by
   rw [YM (k:=4)]
   ·simp [g1];omega
   ·intro r hr
    rcases List.mem_append.1 hr with hr | hr
    ·exact Qb2 r hr
    ·rw [List.eq_of_mem_replicate hr];rfl
  have:=Row.setCells [.int .i64 x.height,.int .i64 x.time,rv,nv] (k*4) w _ g3 (by rw [hlen];simp;omega)
  have e:=QhN (ps:=ps.map YX) (k:=4) (m:=n-(k+1)) (z:=zKn) (r:=[.int .i64 x.height,.int .i64 x.time,rv,nv]) Qb2 rfl rfl
  rw [List.length_map,g1,show n-(k+1)+1=n-k by omega] at e
  rw [e] at this
  rw [List.map_append]
  exact this
 ·rcases List.mem_append.1 hq with hq | hq
  ·exact ⟨keep (g4 q hq).1,keep (g4 q hq).2⟩
  ·obtain rfl:q=⟨x,rv,nv⟩:=by simpa using hq
   exact ⟨keep h1,keep h2⟩
theorem Qbc.all {l:List Kn} {n G base:Nat} {w:World} (h:Qbc l n G n w) (hn:l.length=n) (hm:n≤1000) (hb:base≤G):∃ ps,JH w base (.slice (some ⟨G,0,none⟩) n n) ps∧ps.map (·.k)=l:=by
 obtain ⟨ps,g1,g2,g3,g4⟩:=h
 rw [Nat.sub_self,List.replicate_zero,List.append_nil] at g3
 have hok:∀ r∈ps.map YX,QiA r:=fun r hr=>by
  obtain ⟨q,hq,rfl⟩:=List.mem_map.1 hr
  exact KnR.ok.row (w:=w) (N:=w.heap.size) ⟨(g4 q hq).1.bytes,(g4 q hq).2.bytes⟩
 have hfl:=QcS hok
 rw [List.length_map,g1] at hfl
 refine ⟨ps,⟨JN.of_row hok hb g3 (by simp [g1]) (Nat.le_refl _) (by unfold maxLen;omega) hfl (by rw [← hfl,List.take_length]),fun q hq=>⟨(g4 q hq).1.mono (by omega),(g4 q hq).2.mono (by omega)⟩⟩,?_⟩
 rw [g2,List.take_of_length_le (by omega)]
theorem Qel (c:Cl) (v:Value) (N:Nat) (w:World) (hv:ClV w N v c) (hN:N≤w.heap.size) (hfit:c.fits) (h30:c.known.length≤1000) :
  Calls Tryz.prog 80 #[v] w fun e w'=>Below w.heap.size w w'∧∃ o m ps,e=.returned (.agg #[.string c.chain,.int .i64 c.trust,.bool c.frozen,.slice o ps.length m])∧JH w' w.heap.size (.slice o ps.length m) ps∧ps.map (·.k)=c.known:=by
 obtain ⟨kv,rfl,hk⟩:=hv
 obtain ⟨oa,ca,rfl,hca⟩:=hk.shape
 have HK:=hid hk
 have HFT:=hid hfit.2.2
 clear hk hfit
 obtain ⟨w0,hw0⟩:∃ w0,(w.alloc (.cells #[.string c.chain,.int .i64 c.trust,.bool c.frozen,.slice oa c.known.length ca] 72)).alloc (.cells #[.string ⟨#[]⟩,.int .i64 0,.bool false,.slice none 0 0] 72)=w0:=⟨_,rfl⟩
 have hsz0:w0.heap.size=w.heap.size+1+1:=by rw [← hw0];simp
 have hb0:Below w.heap.size w w0:=by rw [← hw0];exact ((Below.refl _ _).alloc (Nat.le_refl _) _).alloc (by simp) _
 have hr0:Row w0 w.heap.size 72 [.string c.chain,.int .i64 c.trust,.bool c.frozen,.slice oa c.known.length ca]:=by rw [← hw0];exact (Row.new _ _ _).alloc _
 have hr1:Row w0 (w.heap.size+1) 72 [.string ⟨#[]⟩,.int .i64 0,.bool false,.slice none 0 0]:=by
  rw [← hw0]
  have:=Row.new (w.alloc (.cells #[.string c.chain,.int .i64 c.trust,.bool c.frozen,.slice oa c.known.length ca] 72)) 72 [.string ⟨#[]⟩,.int .i64 0,.bool false,.slice none 0 0]
  simp only [World.size_alloc] at this
  exact this
 have HN:=hid (show c.known.length=c.known.length from rfl)
 generalize hl:c.known=l at *
 have HL:=hid hl
 clear hl
 generalize hnn:l.length=n at *
 have HNN:=hid hnn
 clear hnn HN
 have hmk:=Qga n w0 h30
 obtain ⟨w1,hw1⟩:∃ w1,w0.alloc (.cells (([]:List KnR).map YX ++ List.replicate n zKn).flatten.toArray 114)=w1:=⟨_,rfl⟩
 rw [hw1,hsz0] at hmk
 have hb1:=bof hw1
 have HC1:=hid (show Qbc l n (w.heap.size+1+1) 0 w1 from ⟨[],rfl,rfl,by rw [← hw1,← hsz0,Nat.sub_zero];exact Row.new _ _ _,fun q hq=>by cases hq⟩)
 have HB1:=hid (hb0.trans (hb1.mono hb0.size))
 have HR0:=hid (hr0.below hb1 hr0.lt)
 have HR1:=hid (hr1.below hb1 hr1.lt)
 have HQ0:=hid hr0
 obtain ⟨⟨y0,y1,y2,y3⟩,_⟩:=hr0.four
 obtain ⟨⟨x0,x1,x2,x3⟩,_⟩:=HR0.out.four
 have HW0:=hid hw0
 have HSZ1:=hid (show w1.heap.size=w.heap.size+1+1+1 by rw [← hw1];simp [hsz0])
 clear hw0 hb0 hr0 hr1 hw1 hb1 hsz0
 go_enter Tryz.func80,Tryz.ntmps80
 go_wp2_with fail
 rw [HW0.out,hmk]
 go_wp2_with fail
 go_loopw [4,5,13] (fun _ _ i wr=>∃ k:Nat,k≤n∧i=.int .i64 (k:Int)∧Hid (Below w1.heap.size w1 wr∨True)∧Hid (Qbc l n (w.heap.size+1+1) k wr∧Row wr w.heap.size 72 [.string c.chain,.int .i64 c.trust,.bool c.frozen,.slice oa n ca]∧Row wr (w.heap.size+1) 72 [.string ⟨#[]⟩,.int .i64 0,.bool false,.slice none 0 0]∧Below w.heap.size w wr)) (fun _ _ i _=>n-(intOf i).toNat)
 case atStart=>exact ⟨0,by omega,rfl,hid (.inr trivial),hid ⟨HC1.out,HR0.out,HR1.out,HB1.out⟩⟩
 case round =>
  obtain ⟨k,hk,rfl,_,HT⟩:=hrel
  have hszr:=HT.out.2.2.2.size
  have HCD:=hid HT.out.1
  have HRA:=hid HT.out.2.1
  have HRB:=hid HT.out.2.2.1
  have HBR:=hid HT.out.2.2.2
  have hlt1:=HRB.out.lt
  have HGL:=hid (show w.heap.size+1+1<wr.heap.size by obtain ⟨_,_,_,h,_⟩:=HCD.out;exact h.lt)
  by_cases hlt:k<n
  ·obtain ⟨x,hx⟩:∃ x,l[k]?=some x:=⟨l[k]'(by rw [HNN.out];exact hlt),List.getElem?_eq_getElem _⟩
   obtain ⟨b,o,rfl,hcells⟩:=HK.out.spot (by omega)
   obtain ⟨hbN,vr,vn,d0,d1,d2,d3,b2,b3⟩:=hcells k x hx
   obtain ⟨o2,c2,rfl,_⟩:=b2.shape
   obtain ⟨o3,c3,rfl,_⟩:=b3.shape
   have hbl:b<w.heap.size:=by omega
   have f0:=(HBR.out.cell (p:=⟨b,o+k*4,none⟩) hbl).trans d0
   have f1:=(HBR.out.cell (p:=⟨b,o+k*4+1,none⟩) hbl).trans d1
   have f2:=(HBR.out.cell (p:=⟨b,o+k*4+2,none⟩) hbl).trans d2
   have f3:=(HBR.out.cell (p:=⟨b,o+k*4+3,none⟩) hbl).trans d3
   have hlt':(k:Int)<(n:Int):=by omega
   obtain ⟨w2,hw2⟩:∃ w2,wr.alloc (.cells #[.int .i64 x.height,.int .i64 x.time,.slice o2 x.root.length c2,.slice o3 x.next.length c3] 114)=w2:=⟨_,rfl⟩
   have hb2:=bof hw2
   have hr2:Row w2 wr.heap.size 114 [.int .i64 x.height,.int .i64 x.time,.slice o2 x.root.length c2,.slice o3 x.next.length c3]:=by rw [← hw2];exact Row.new _ _ _
   obtain ⟨⟨q0,q1,q2,q3⟩,_⟩:=hr2.four
   have HB2:=hgo HBR hb2
   have HCP:=hid (Qcs x (.agg #[.int .i64 x.height,.int .i64 x.time,.slice o2 x.root.length c2,.slice o3 x.next.length c3]) N w2 ⟨_,_,rfl,b2.below (HB2.out.mono hN),b3.below (HB2.out.mono hN)⟩ (Nat.le_trans hN HB2.out.size) (HFT.out x (List.mem_of_getElem? hx)))
   have HQ2:=hid hb2
   have HW2:=hid hw2
   have HX:=hid hx
   clear hcells d0 d1 d2 d3 b2 b3 hb2 hr2 hw2 hx HT
   go_wp2_with fail
   rw [HW2.out]
   go_wp2_with fail
   refine HCP.out.mono ?_
   rintro e w3 ⟨hb3,o4,c4,o5,c5,rfl,hx4,hx5⟩
   have HQ3:=hgo HQ2 hb3
   have HB3:=hgo HB2 hb3
   have HCD3:=hid (HCD.out.below HQ3.out)
   have HRA3:=hid (rg HRA HQ3)
   have HRB3:=hid (rg HRB HQ3)
   have HO4:=hid (hx4.mono (show w.heap.size+1+1+1≤w2.heap.size by have:=HQ2.out.size;have:=HGL.out;omega))
   have HO5:=hid (hx5.mono (show w.heap.size+1+1+1≤w2.heap.size by have:=HQ2.out.size;have:=HGL.out;omega))
   obtain ⟨t0,t1,t2,t3,tz⟩:=HCD3.out.cells hlt
   have z0:=tz (k*4)
   have z1:=tz (k*4+1)
   have z2:=tz (k*4+2)
   have z3:=tz (k*4+3)
   clear hb3 hx4 hx5 tz q0 q1 q2 q3 f0 f1 f2 f3
   go_wp2
   go_roundw
   case rel =>
    refine ⟨k+1,by omega,by go_num,hid (.inr trivial),hid ⟨HCD3.out.next HX.out hlt HO4.out HO5.out,?_,?_,?_⟩⟩
    ·exact (((HRA3.out.other _ (by simp only;omega)).other _ (by simp only;omega)).other _ (by simp only;omega)).other _ (by simp only;omega)
    ·exact (((HRB3.out.other _ (by simp only;omega)).other _ (by simp only;omega)).other _ (by simp only;omega)).other _ (by simp only;omega)
    ·have hge:w.heap.size≤w.heap.size+1+1:=by omega
     exact (((HB3.out.setCell hge _).setCell hge _).setCell hge _).setCell hge _
   case measure=>simp [intOf];omega
  ·have hge:decide ((k:Int)<(n:Int))=false:=by simp;omega
   obtain rfl:k=n:=by omega
   obtain ⟨⟨p0,p1,p2,p3⟩,e0,e1,e2,e3⟩:=HRA.out.four
   obtain ⟨⟨r0,r1,r2,r3⟩,g0,g1,g2,g3⟩:=HRB.out.four
   clear HT x0 x1 x2 x3 y0 y1 y2 y3
   go_wp2_with fail
   have hrz:=Zy (HRB.out.other (a:=⟨w.heap.size,3,none⟩) (.slice (some ⟨w.heap.size+1+1,0,none⟩) k k) (by simp only;omega)) (.string c.chain) (.int .i64 c.trust) (.bool c.frozen) (.slice (some ⟨w.heap.size+1+1,0,none⟩) k k)
   obtain ⟨⟨u0,u1,u2,u3⟩,_⟩:=hrz.four
   have hbz:=JV (HBR.out.setCell (p:=⟨w.heap.size,3,none⟩) (Nat.le_refl _) (.slice (some ⟨w.heap.size+1+1,0,none⟩) k k)) (show w.heap.size≤w.heap.size+1 by omega) (.string c.chain) (.int .i64 c.trust) (.bool c.frozen) (.slice (some ⟨w.heap.size+1+1,0,none⟩) k k)
   have hoz:=Qdc (wr.setCell ⟨w.heap.size,3,none⟩ (.slice (some ⟨w.heap.size+1+1,0,none⟩) k k)) (w.heap.size+1) (.string c.chain) (.int .i64 c.trust) (.bool c.frozen) (.slice (some ⟨w.heap.size+1+1,0,none⟩) k k)
   obtain ⟨ps,hown,hps⟩:=(HCD.out.keep (fun g hg=>(hoz g (by omega)).trans (heap_setCell_other _ _ _ _ (by simp only;omega)))).all HNN.out h30 (show w.heap.size≤w.heap.size+1+1 by omega)
   have hpl:ps.length=k:=by have:=congrArg List.length hps;rw [List.length_map,HNN.out] at this;exact this
   unfold Qb7 at u0 u1 u2 u3
   refine bodyPost_ret (v:=.agg #[.string c.chain,.int .i64 c.trust,.bool c.frozen,.slice (some ⟨w.heap.size+1+1,0,none⟩) k k]) (by simp [results,Tryz.results80,go_sem,u0,u1,u2,u3]) rfl ⟨hbz,some ⟨w.heap.size+1+1,0,none⟩,k,ps,?_⟩
   rw [hpl]
   exact ⟨rfl,hown,hps⟩
end Go.Proofs.YtbgdpfeobklnhaaGreatDoor
