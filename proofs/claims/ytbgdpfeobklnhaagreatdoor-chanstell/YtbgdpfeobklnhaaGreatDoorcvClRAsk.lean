/-
  What the document's Num, Name and Wrong answer: whether a number may stand for a height, whether a text is a name; what keeps a header from being one. What the document's Vals answers: what keeps a list from being validators. It turns no memory that was there.
  What the document's Wrong answers of a client.
  What the document's At, Latest, Active and Asked answer of a client.
-/
import Derived.Test.YtbgdpfeobklnhaaGreatDoorcvHdMems
import Derived.Test.YtbgdpfeobklnhaaGreatDoorcvClAsk
import Derived.Laws.RangeString
namespace Go.Proofs.YtbgdpfeobklnhaaGreatDoor
set_option maxRecDepth 1000000
set_option maxHeartbeats 8000000
open Go.RowKit
theorem Qfp (n:Int) (w:World):Calls Tryz.prog 85 #[.int .i64 n] w fun e w'=>e=.returned (.bool (decide (0≤n) && decide (n≤1000000000000)))∧w'=w:=by
 by_cases h1:0≤n
 ·have e1:decide (0≤n)=true:=by simpa using h1
  go_enter Tryz.func85,Tryz.ntmps85
  go_wp2
  go_ret
  exact ⟨by simp [e1];first | done | rfl,rfl⟩
 ·have e1:decide (0≤n)=false:=by simpa using h1
  go_enter Tryz.func85,Tryz.ntmps85
  go_wp2
  go_ret
  exact ⟨by simp;first | done | rfl | (simp [e1];first | done | rfl),rfl⟩
theorem Qix {P:Program} (w:World) (s:ByteArray) (pos:Nat) (h:pos<s.size) :
  ∃ r p,(∀ ty,(Instr.next (.pointer (some ⟨w.heap.size,0,none⟩)) true ty).run P (w.iter s pos)=.ok (.tuple #[.bool true,.int .i64 pos,r]) (w.iter s p))∧((s[pos]'h).toNat<128→p=pos+1):=by
 by_cases ha:(s[pos]'h).toNat<128
 ·exact ⟨_,_,fun ty=>run_next_ascii w s pos ty h ha,fun _=>rfl⟩
 ·refine ⟨.int .i32 (Utf8.decode s pos).1,pos+(Utf8.decode s pos).2,fun ty=>?_,fun h=>absurd h ha⟩
  simp only [Instr.next,getObj,setObj,Sem.run_bind,Sem.run,World.iter_heap,Result.andThen,h,if_true,World.iter_set]
  simp [goInt]
def QiG (w wr:World):Nat:=match wr.heap[w.heap.size]? with
 | some (.stringIter _ p)=>p
 | _=>0
theorem Qc5 (w:World) (s:ByteArray) (p:Nat):QiG w (w.iter s p)=p:=by unfold QiG;rw [World.iter_heap]
theorem Qfg {c:UInt8} (h:Y7 c=true):c.toNat<128:=by
 unfold Y7 at h
 simp at h
 omega
def Qau (c:UInt8) (a k:Nat):Bool:=decide (a≤c.toNat) && decide (c.toNat<k)
theorem Qd0 (c:UInt8) (a k:Nat) (h:a≤k):Qau c a (k+1)=(Qau c a k || decide (c.toNat=k)):=by
 unfold Qau
 rw [Bool.eq_iff_iff]
 simp
 omega
theorem Qbu (a b:Nat):((a:Int) == (b:Int))=decide (a=b):=by rw [Bool.eq_iff_iff];simp;omega
theorem QcZ (c:UInt8) (a:Nat):Qau c a a=false:=by unfold Qau;rw [Bool.eq_false_iff];simp
theorem QhG (c:UInt8):(Qau c 97 123 || Qau c 48 58)=Y7 c:=by
 unfold Qau Y7
 rw [Bool.eq_iff_iff]
 simp
 omega
theorem JT (s:ByteArray) (w:World) (hs:s.size≤140737488351232):Calls Tryz.prog 58 #[.string s] w fun e w'=>e=.returned (.bool (JI s))∧Below w.heap.size w w':=by
 by_cases h1:s.size=0
 ·have e1:((s.size:Int) == 0)=true:=by simp [h1]
  have HN:=hid (ZG (s:=s) (.inl (by omega)))
  go_enter Tryz.func58,Tryz.ntmps58
  go_wp2
  go_ret
  exact ⟨by rw [HN.out];first | done | rfl,Below.refl _ _⟩
 ·have e1:((s.size:Int) == 0)=false:=by rw [beq_eq_false_iff_ne];omega
  by_cases h2:20<s.size
  ·have e2:decide ((20:Int)<(s.size:Int))=true:=by simp;omega
   have HN:=hid (ZG (s:=s) (.inr h2))
   go_enter Tryz.func58,Tryz.ntmps58
   go_wp2
   go_ret
   exact ⟨by rw [HN.out];first | done | rfl,Below.refl _ _⟩
  ·have e2:decide ((20:Int)<(s.size:Int))=false:=by simp;omega
   go_enter Tryz.func58,Tryz.ntmps58
   go_wp2_with fail
   go_loopw [3,4,5,6] (fun _ _ _ _ wr=>∃ k:Nat,k≤s.size∧wr=w.iter s k∧Hid (∀ j (hj:j<s.size),j<k→Y7 s[j]=true)) (fun _ _ _ _ wr=>s.size-QiG w wr)
   case atStart=>exact ⟨0,by omega,rfl,hid (fun j _ hj=>absurd hj (by omega))⟩
   case round =>
    obtain ⟨k,hk,rfl,HI⟩:=hrel
    by_cases hlt:k<s.size
    ·obtain ⟨r,p,hnx,hp⟩:=Qix (P:=Tryz.prog) w s k hlt
     have HP:=hid hp
     clear hp
     have hlt':(k:Int)<(s.size:Int):=by omega
     have hcb:=s[k].toNat_lt
     go_wp2_with fail
     go_loopw [4,5] (fun ok c wx=>∃ m:Nat,97≤m∧m≤123∧c=.int .u8 (m:Int)∧ok=.bool (Qau s[k] 97 m)∧wx=w.iter s p) (fun _ c _=>123-(intOf c).toNat)
     case atStart=>exact ⟨97,by omega,by omega,rfl,by rw [QcZ],rfl⟩
     case round =>
      obtain ⟨m,hm1,hm2,rfl,rfl,rfl⟩:=hrel
      by_cases hm:m≤122
      ·have g1:decide ((m:Int)≤122)=true:=by simp;omega
       have hw:IntKind.u8.wrap ((m:Int)+1)=((m+1:Nat):Int):=by simp [IntKind.wrap,IntKind.bits,IntKind.signed];omega
       have HS:=hid (Qd0 s[k] 97 m hm1)
       generalize Qau s[k] 97 m=mb at *
       cases mb with
       | true =>
        go_wp2_with fail
        go_roundw
        case rel=>exact ⟨m+1,by omega,by omega,by go_num,by rw [HS.out];first | (simp;done) | (simp;exact Qbu _ _),by first | rfl | trivial⟩
        case measure=>simp [intOf];omega
       | false =>
        go_wp2_with fail
        go_roundw
        case rel=>exact ⟨m+1,by omega,by omega,by go_num,by rw [HS.out];first | (simp;done) | (simp;exact Qbu _ _),by first | rfl | trivial⟩
        case measure=>simp [intOf];omega
      ·have g1:decide ((m:Int)≤122)=false:=by simp;omega
       obtain rfl:m=123:=by omega
       go_wp2_with fail
       go_loopw [4,6] (fun ok c wx=>∃ q:Nat,48≤q∧q≤58∧c=.int .u8 (q:Int)∧ok=.bool (Qau s[k] 97 123 || Qau s[k] 48 q)∧wx=w.iter s p) (fun _ c _=>58-(intOf c).toNat)
       case atStart=>exact ⟨48,by omega,by omega,rfl,by rw [QcZ,Bool.or_false],rfl⟩
       case round =>
        obtain ⟨q,hq1,hq2,rfl,rfl,rfl⟩:=hrel
        by_cases hq:q≤57
        ·have g2:decide ((q:Int)≤57)=true:=by simp;omega
         have hw:IntKind.u8.wrap ((q:Int)+1)=((q+1:Nat):Int):=by simp [IntKind.wrap,IntKind.bits,IntKind.signed];omega
         have HS:=hid (show (Qau s[k] 97 123 || Qau s[k] 48 (q+1))=((Qau s[k] 97 123 || Qau s[k] 48 q) || decide (s[k].toNat=q)) by rw [Qd0 s[k] 48 q hq1,Bool.or_assoc])
         generalize (Qau s[k] 97 123 || Qau s[k] 48 q)=mb at *
         cases mb with
         | true =>
          go_wp2_with fail
          go_roundw
          case rel=>exact ⟨q+1,by omega,by omega,by go_num,by rw [HS.out];first | (simp;done) | (simp;exact Qbu _ _),by first | rfl | trivial⟩
          case measure=>simp [intOf];omega
         | false =>
          go_wp2_with fail
          go_roundw
          case rel=>exact ⟨q+1,by omega,by omega,by go_num,by rw [HS.out];first | (simp;done) | (simp;exact Qbu _ _),by first | rfl | trivial⟩
          case measure=>simp [intOf];omega
        ·have g2:decide ((q:Int)≤57)=false:=by simp;omega
         obtain rfl:q=58:=by omega
         have HM:=hid (QhG s[k])
         rw [HM.out]
         by_cases hc:Y7 s[k]=true
         ·rw [hc]
          have hpk:=HP.out (Qfg hc)
          have HPK:=hid hpk
          clear hpk
          go_wp2_with fail
          go_roundw
          case rel=>exact ⟨k+1,by omega,by rw [HPK.out],hid (fun j hj hj2=>by
           by_cases e:j=k
           ·subst e;exact hc
           ·exact HI.out j hj (by omega))⟩
          case measure=>rw [HPK.out,Qc5,Qc5];omega
         ·have hc':Y7 s[k]=false:=by simpa using hc
          rw [hc']
          have HN:=hid (Qff k hlt hc')
          go_wp2
          go_ret
          exact ⟨by rw [HN.out];first | done | rfl,(Below.refl _ _).alloc (Nat.le_refl _) _⟩
    ·have hnx:=fun ty=>run_next_end (P:=Tryz.prog) w s k ty hlt
     have HN:=hid (Qd1 (s:=s) (by omega) (by omega) (fun j hj=>HI.out j hj (by omega)))
     go_wp2
     go_ret
     exact ⟨by rw [HN.out];first | done | rfl,(Below.refl _ _).alloc (Nat.le_refl _) _⟩
theorem QQ (n:Int) (w:World):Calls Tryz.prog 85 #[.int .i64 n] w fun e w'=>e=.returned (.bool (Qdi n))∧w'=w:=Qfp n w
theorem Qck:QeG 59:=by
 intro c v N w hv hN hfit
 obtain ⟨kv,rfl,hk⟩:=hv
 obtain ⟨f1,f2,f3⟩:=hfit
 obtain ⟨oa,ca,rfl,hca⟩:=hk.shape
 have HK:=hid hk
 have HF1:=hid f1
 clear hk f3 f1
 obtain ⟨w0,hw0⟩:∃ w0,w.alloc (.cells #[.string c.chain,.int .i64 c.trust,.bool c.frozen,.slice oa c.known.length ca] 72)=w0:=⟨_,rfl⟩
 have hb0:=bof hw0
 have HB0:=hid hb0
 have hr0:=(show Row w0 w.heap.size 72 [.string c.chain,.int .i64 c.trust,.bool c.frozen,.slice oa c.known.length ca] by rw [← hw0];exact Row.new _ _ _)
 have HR0:=hid hr0
 have HW0:=hid hw0
 obtain ⟨⟨k0,k1,k2,k3⟩,-⟩:=hr0.four
 clear hr0 hb0 hw0
 by_cases hn:JI c.chain=true
 ·have HNM:=hid hn
  by_cases ht:c.trust<1∨1000000000000<c.trust
  ·have HW:=hid (Qd9 hn ht)
   by_cases r1:c.trust=0
   ·have e1:(c.trust == 0)=true:=by simpa using r1
    clear ht r1 hn
    go_enter Tryz.func59,Tryz.ntmps59
    go_wp2_with fail
    rw [HW0.out]
    refine (JT _ _ HF1.out).mono ?_
    rintro e w1 ⟨rfl,hb1⟩
    rw [HNM.out]
    have HB01:=hid hb1
    have HB1:=hgo HB0 hb1
    have HR1:=rgo HR0 hb1
    clear hb1 k0 k1 k2 k3
    obtain ⟨⟨k0,k1,k2,k3⟩,-⟩:=HR1.out.four
    go_wp2
    go_ret
    exact ⟨by rw [HW.out];first | done | rfl,HB1.out⟩
   ·have e1:(c.trust == 0)=false:=by simpa using r1
    have HT:=hid (Yq (n:=c.trust) (by omega))
    clear ht r1 hn
    go_enter Tryz.func59,Tryz.ntmps59
    go_wp2_with fail
    rw [HW0.out]
    refine (JT _ _ HF1.out).mono ?_
    rintro e w1 ⟨rfl,hb1⟩
    rw [HNM.out]
    have HB01:=hid hb1
    have HB1:=hgo HB0 hb1
    have HR1:=rgo HR0 hb1
    clear hb1 k0 k1 k2 k3
    obtain ⟨⟨k0,k1,k2,k3⟩,-⟩:=HR1.out.four
    go_wp2_with (go_at_call 85;refine (QQ _ _).mono ?_;rintro e w' ⟨rfl,hw'⟩;obtain rfl:=hw'.symm;(rw [HT.out]))
    go_ret
    exact ⟨by rw [HW.out];first | done | rfl,HB1.out⟩
  ·have e1:(c.trust == 0)=false:=by rw [beq_eq_false_iff_ne];omega
   have HT:=hid (Yg (n:=c.trust) (by omega))
   by_cases hm:c.known.length<1∨30<c.known.length
   ·have HW:=hid (Qea hn ht hm)
    by_cases r1:c.known.length=0
    ·have e3:((c.known.length:Int) == 0)=true:=by rw [beq_iff_eq];omega
     clear ht hm r1 hn
     go_enter Tryz.func59,Tryz.ntmps59
     go_wp2_with fail
     rw [HW0.out]
     refine (JT _ _ HF1.out).mono ?_
     rintro e w1 ⟨rfl,hb1⟩
     rw [HNM.out]
     have HB01:=hid hb1
     have HB1:=hgo HB0 hb1
     have HR1:=rgo HR0 hb1
     clear hb1 k0 k1 k2 k3
     obtain ⟨⟨k0,k1,k2,k3⟩,-⟩:=HR1.out.four
     go_wp2_with (go_at_call 85;refine (QQ _ _).mono ?_;rintro e w' ⟨rfl,hw'⟩;obtain rfl:=hw'.symm;(rw [HT.out]))
     go_ret
     exact ⟨by rw [HW.out];first | done | rfl,HB1.out⟩
    ·have e3:((c.known.length:Int) == 0)=false:=by rw [beq_eq_false_iff_ne];omega
     have e4:decide (30<(c.known.length:Int))=true:=by simp;omega
     clear ht hm r1 hn
     go_enter Tryz.func59,Tryz.ntmps59
     go_wp2_with fail
     rw [HW0.out]
     refine (JT _ _ HF1.out).mono ?_
     rintro e w1 ⟨rfl,hb1⟩
     rw [HNM.out]
     have HB01:=hid hb1
     have HB1:=hgo HB0 hb1
     have HR1:=rgo HR0 hb1
     clear hb1 k0 k1 k2 k3
     obtain ⟨⟨k0,k1,k2,k3⟩,-⟩:=HR1.out.four
     go_wp2_with (go_at_call 85;refine (QQ _ _).mono ?_;rintro e w' ⟨rfl,hw'⟩;obtain rfl:=hw'.symm;(rw [HT.out]))
     go_ret
     exact ⟨by rw [HW.out];first | done | rfl,HB1.out⟩
   ·have e3:((c.known.length:Int) == 0)=false:=by rw [beq_eq_false_iff_ne];omega
    have e4:decide (30<(c.known.length:Int))=false:=by simp;omega
    have HW:=hid (Qdo hn ht hm)
    have h30:c.known.length≤30:=by omega
    clear ht hm hn
    generalize hnn:c.known.length=n at *
    have HN:=hid hnn
    clear hnn
    generalize hl:c.known=l at *
    clear hl
    go_enter Tryz.func59,Tryz.ntmps59
    go_wp2_with fail
    rw [HW0.out]
    refine (JT _ _ HF1.out).mono ?_
    rintro e w1 ⟨rfl,hb1⟩
    rw [HNM.out]
    have HB01:=hid hb1
    have HB1:=hgo HB0 hb1
    have HR1:=rgo HR0 hb1
    clear hb1 k0 k1 k2 k3
    obtain ⟨⟨k0,k1,k2,k3⟩,-⟩:=HR1.out.four
    go_wp2_with (go_at_call 85;refine (QQ _ _).mono ?_;rintro e w' ⟨rfl,hw'⟩;obtain rfl:=hw'.symm;(rw [HT.out]))
    go_loopw [3,4,5,32] (fun s3 _ _ i wr=>∃ (k:Nat) (p:Int),k≤n∧s3=.int .i64 p∧i=.int .i64 (k:Int)∧Hid (Below w1.heap.size w1 wr∧Qg c=QaB (Yf l k) (l.drop k)∧(k≠0→Yf l k=some p))) (fun _ _ _ i _=>n-(intOf i).toNat)
    case atStart=>exact ⟨0,0,by omega,rfl,rfl,hid ⟨Below.refl _ _,HW.out,fun h=>absurd rfl h⟩⟩
    case round =>
     obtain ⟨k,p,hk,rfl,rfl,HT⟩:=hrel
     have hszr:=HT.out.1.size
     have HBW:=hid (HB1.out.trans (HT.out.1.mono HB1.out.size))
     have hszw:=HB1.out.size
     by_cases hlt:k<n
     ·obtain ⟨x,hx⟩:∃ x,l[k]?=some x:=⟨l[k]'(by rw [HN.out];exact hlt),List.getElem?_eq_getElem _⟩
      obtain ⟨b,o,rfl,hcells⟩:=HK.out.spot (by omega)
      obtain ⟨hbN,vr,vn,d0,d1,d2,d3,b2,b3⟩:=hcells k x hx
      obtain ⟨o2,c2,rfl,-⟩:=b2.shape
      obtain ⟨o3,c3,rfl,-⟩:=b3.shape
      have hbl:b<w.heap.size:=by omega
      have f0:=(HBW.out.cell (p:=⟨b,o+k*4,none⟩) hbl).trans d0
      have f1:=(HBW.out.cell (p:=⟨b,o+k*4+1,none⟩) hbl).trans d1
      have f2:=(HBW.out.cell (p:=⟨b,o+k*4+2,none⟩) hbl).trans d2
      have f3:=(HBW.out.cell (p:=⟨b,o+k*4+3,none⟩) hbl).trans d3
      have HST:=hid (QgT l k x hx)
      have HPS:=hid (QaG l k x hx)
      have hlt':(k:Int)<(n:Int):=by omega
      obtain ⟨w2,hw2⟩:∃ w2,wr.alloc (.cells #[.int .i64 x.height,.int .i64 x.time,.slice o2 x.root.length c2,.slice o3 x.next.length c3] 114)=w2:=⟨_,rfl⟩
      have hbr2:=bof hw2
      have HB2:=hid (HT.out.1.trans (hbr2.mono hszr))
      have HBW2:=hgo HBW hbr2
      have hrow2:Row w2 wr.heap.size 114 [.int .i64 x.height,.int .i64 x.time,.slice o2 x.root.length c2,.slice o3 x.next.length c3]:=by rw [← hw2];exact Row.new _ _ _
      have q0:=hrow2.cell 0
      have q1:=hrow2.cell 1
      have q2:=hrow2.cell 2
      have q3:=hrow2.cell 3
      have HW2:=hid hw2
      clear d0 d1 d2 d3 hbr2 hrow2 b2 b3 hcells hx
      have STEP:=fun (hne:Jc x=0)=>HST.out.trans (if_neg (fun h=>h hne))
      have BAD:=fun (hne:Jc x≠0)=>HST.out.trans (if_pos hne)
      have STEP':=hid STEP
      have BAD':=hid BAD
      clear STEP BAD
      by_cases hr:x.height<1∨1000000000000<x.height∨x.time<0∨1000000000000<x.time
      ·have HV2:=hid (show Qg c=3 by rw [HT.out.2.1,BAD'.out (by rw [Qdq hr];decide),Qdq hr])
       by_cases r1:x.height=0
       ·have e5:(x.height == 0)=true:=by simpa using r1
        clear hr r1
        go_wp2
        go_ret
        exact ⟨by rw [HV2.out];first | done | rfl,HBW2.out⟩
       ·have e5:(x.height == 0)=false:=by simpa using r1
        by_cases r2:x.height<0∨1000000000000<x.height
        ·have HT1:=hid (Yq r2)
         clear hr r1 r2
         go_wp2_with (go_at_call 85;refine (QQ _ _).mono ?_;rintro e w' ⟨rfl,hw'⟩;obtain rfl:=hw'.symm;(rw [HT1.out]))
         go_ret
         exact ⟨by rw [HV2.out];first | done | rfl,HBW2.out⟩
        ·have HT1:=hid (Yg r2)
         have HT2:=hid (Yq (n:=x.time) (by omega))
         clear hr r1 r2
         go_wp2_with (go_at_call 85;refine (QQ _ _).mono ?_;rintro e w' ⟨rfl,hw'⟩;obtain rfl:=hw'.symm;(first | rw [HT1.out] | rw [HT2.out]))
         go_ret
         exact ⟨by rw [HV2.out];first | done | rfl,HBW2.out⟩
      ·have e5:(x.height == 0)=false:=by rw [beq_eq_false_iff_ne];omega
       have HT1:=hid (Yg (n:=x.height) (by omega))
       have HT2:=hid (Yg (n:=x.time) (by omega))
       by_cases l1:x.root.length=32
       ·have e6:((x.root.length:Int) != 32)=false:=by simp;omega
        by_cases l2:x.next.length=32
        ·have e7:((x.next.length:Int) != 32)=false:=by simp;omega
         have HWK:=hid (QfL hr (by omega))
         clear hr l1 l2
         by_cases hk0:k=0
         ·have e8:decide ((0:Int)<(k:Int))=false:=by simp;omega
          have e9:decide (0<k)=false:=by simp;omega
          have HV2:=hid (show Qg c=QaB (Yf l (k+1)) (l.drop (k+1)) by rw [HT.out.2.1,STEP'.out HWK.out,if_neg (by rw [hk0];simp [Qcj,Zn])])
          clear hk0
          go_wp2_with (go_at_call 85;refine (QQ _ _).mono ?_;rintro e w' ⟨rfl,hw'⟩;obtain rfl:=hw'.symm;(first | rw [HT1.out] | rw [HT2.out]))
          go_roundw
          case rel=>exact ⟨k+1,x.height,by omega,rfl,by go_num,hid ⟨HB2.out,HV2.out,fun _=>HPS.out⟩⟩
          case measure=>simp [intOf];omega
         ·have e8:decide ((0:Int)<(k:Int))=true:=by simp;omega
          have e9:decide (0<k)=true:=by simp;omega
          have HPV:=hid (HT.out.2.2 hk0)
          clear hk0
          by_cases hle:x.height≤p
          ·have e10:decide (x.height≤p)=true:=by simpa using hle
           have HV2:=hid (show Qg c=2 by rw [HT.out.2.1,STEP'.out HWK.out,HPV.out,if_pos (by simpa [Zn] using hle)])
           clear hle
           go_wp2_with (go_at_call 85;refine (QQ _ _).mono ?_;rintro e w' ⟨rfl,hw'⟩;obtain rfl:=hw'.symm;(first | rw [HT1.out] | rw [HT2.out]))
           go_ret
           exact ⟨by rw [HV2.out];first | done | rfl,HBW2.out⟩
          ·have e10:decide (x.height≤p)=false:=by simpa using hle
           have HV2:=hid (show Qg c=QaB (Yf l (k+1)) (l.drop (k+1)) by rw [HT.out.2.1,STEP'.out HWK.out,HPV.out,if_neg (by simpa [Zn] using hle)])
           clear hle
           go_wp2_with (go_at_call 85;refine (QQ _ _).mono ?_;rintro e w' ⟨rfl,hw'⟩;obtain rfl:=hw'.symm;(first | rw [HT1.out] | rw [HT2.out]))
           go_roundw
           case rel=>exact ⟨k+1,x.height,by omega,rfl,by go_num,hid ⟨HB2.out,HV2.out,fun _=>HPS.out⟩⟩
           case measure=>simp [intOf];omega
        ·have e7:((x.next.length:Int) != 32)=true:=by simp;omega
         have HV2:=hid (show Qg c=2 by rw [HT.out.2.1,BAD'.out (by rw [Qaa hr (.inr l2)];decide),Qaa hr (.inr l2)])
         clear hr l1 l2
         go_wp2_with (go_at_call 85;refine (QQ _ _).mono ?_;rintro e w' ⟨rfl,hw'⟩;obtain rfl:=hw'.symm;(first | rw [HT1.out] | rw [HT2.out]))
         go_ret
         exact ⟨by rw [HV2.out];first | done | rfl,HBW2.out⟩
       ·have e6:((x.root.length:Int) != 32)=true:=by simp;omega
        have HV2:=hid (show Qg c=2 by rw [HT.out.2.1,BAD'.out (by rw [Qaa hr (.inl l1)];decide),Qaa hr (.inl l1)])
        clear hr l1
        go_wp2_with (go_at_call 85;refine (QQ _ _).mono ?_;rintro e w' ⟨rfl,hw'⟩;obtain rfl:=hw'.symm;(first | rw [HT1.out] | rw [HT2.out]))
        go_ret
        exact ⟨by rw [HV2.out];first | done | rfl,HBW2.out⟩
     ·have hge:decide ((k:Int)<(n:Int))=false:=by simp;omega
      have HV2:=hid (show Qg c=0 by rw [HT.out.2.1,Qe3 l k (by rw [HN.out];omega)])
      go_wp2
      go_ret
      exact ⟨by rw [HV2.out];first | done | rfl,HBW.out⟩
 ·have hn':JI c.chain=false:=by simpa using hn
  have HNM:=hid hn'
  have HW:=hid (Qeb hn')
  clear hn hn'
  go_enter Tryz.func59,Tryz.ntmps59
  go_wp2_with fail
  rw [HW0.out]
  refine (JT _ _ HF1.out).mono ?_
  rintro e w1 ⟨rfl,hb1⟩
  rw [HNM.out]
  have HB01:=hid hb1
  have HB1:=hgo HB0 hb1
  have HR1:=rgo HR0 hb1
  clear hb1 k0 k1 k2 k3
  obtain ⟨⟨k0,k1,k2,k3⟩,-⟩:=HR1.out.four
  go_wp2
  go_ret
  exact ⟨by rw [HW.out];first | done | rfl,HB1.out⟩
theorem Qep (a b c d:Value) (w:World):(Instr.field 114 (.agg #[a,b,c,d]) 1).run Tryz.prog w=.ok b w:=by kernel_rfl
theorem Qkf:AtC 88:=by
 intro c h v N w hv hN hfit
 obtain ⟨kv,rfl,hk⟩:=hv
 obtain ⟨f1,f2,f3⟩:=hfit
 obtain ⟨oa,ca,rfl,hca⟩:=hk.shape
 obtain ⟨w0,hw0⟩:∃ w0,(w.alloc (.cells #[.string c.chain,.int .i64 c.trust,.bool c.frozen,.slice oa c.known.length ca] 72)).alloc (.cells #[.int .i64 0,.int .i64 0,.slice none 0 0,.slice none 0 0] 114)=w0:=⟨_,rfl⟩
 have hb0:Below w.heap.size w w0:=by rw [← hw0];exact ((Below.refl _ _).alloc (Nat.le_refl _) _).alloc (by simp) _
 have hr0:Row w0 w.heap.size 72 [.string c.chain,.int .i64 c.trust,.bool c.frozen,.slice oa c.known.length ca]:=by rw [← hw0];exact (Row.new _ _ _).alloc _
 have hr2:Row w0 (w.heap.size+1) 114 [.int .i64 0,.int .i64 0,.slice none 0 0,.slice none 0 0]:=by rw [← hw0];exact Row.newAt _ _ _ _ (by simp)
 have HK:=hid hk
 have HB0:=hid hb0
 have HR0:=hid hr0
 have HR2:=hid hr2
 have k3:=hr0.cell 3
 have HW0:=hid hw0
 have hgw:w.heap.size+1<w0.heap.size:=hr2.lt
 clear hk hb0 hr0 hr2 f3
 generalize hnn:c.known.length=n at *
 have HN:=hid hnn
 clear hnn
 generalize hl:c.known=l at *
 clear hl
 go_enter Tryz.func88,Tryz.ntmps88
 go_wp2_with fail
 go_loopw [7,11] (fun _ i wr=>∃ k:Nat,k≤n∧i=.int .i64 (k:Int)∧Hid (Below w0.heap.size w0 wr∧∀ x∈l.take k,x.height≠h)) (fun _ i _=>n-(intOf i).toNat)
 case atStart=>exact ⟨0,Nat.zero_le _,rfl,hid ⟨Below.refl _ _,by simp⟩⟩
 case round =>
  obtain ⟨k,hk,rfl,HR⟩:=hrel
  have hszr:=HR.out.1.size
  have HBW:=hid (HB0.out.trans (HR.out.1.mono HB0.out.size))
  have hszw:=HB0.out.size
  by_cases hlt:k<n
  ·have hlt':(k:Int)<(n:Int):=by omega
   obtain ⟨x,hx⟩:∃ x,l[k]?=some x:=⟨l[k]'(by rw [HN.out];exact hlt),List.getElem?_eq_getElem _⟩
   obtain ⟨b,o,rfl,hcells⟩:=HK.out.spot (by omega)
   obtain ⟨hbN,vr,vn,d0,d1,d2,d3,b2,b3⟩:=hcells k x hx
   obtain ⟨o2,c2,rfl,-⟩:=b2.shape
   obtain ⟨o3,c3,rfl,-⟩:=b3.shape
   have hbl:b<w.heap.size:=by omega
   have f0:=(HBW.out.cell (p:=⟨b,o+k*4,none⟩) hbl).trans d0
   have f1:=(HBW.out.cell (p:=⟨b,o+k*4+1,none⟩) hbl).trans d1
   have f2:=(HBW.out.cell (p:=⟨b,o+k*4+2,none⟩) hbl).trans d2
   have f3:=(HBW.out.cell (p:=⟨b,o+k*4+3,none⟩) hbl).trans d3
   obtain ⟨w2,hw2⟩:∃ w2,wr.alloc (.cells #[.int .i64 x.height,.int .i64 x.time,.slice o2 x.root.length c2,.slice o3 x.next.length c3] 114)=w2:=⟨_,rfl⟩
   have hbr2:=bof hw2
   have HB2:=hid (HR.out.1.trans (hbr2.mono hszr))
   have HBW2:=hgo HBW hbr2
   have hrow2:Row w2 wr.heap.size 114 [.int .i64 x.height,.int .i64 x.time,.slice o2 x.root.length c2,.slice o3 x.next.length c3]:=by rw [← hw2];exact Row.new _ _ _
   obtain ⟨⟨q0,q1,q2,q3⟩,-⟩:=hrow2.four
   have HR22:=hid (rg HR2 HB2)
   obtain ⟨⟨y0,y1,y2,y3⟩,z0,z1,z2,z3⟩:=HR22.out.four
   have HX:=hid hx
   have HBY:=hid (And.intro b2 b3)
   clear hcells d0 d1 d2 d3 b2 b3 hx hbr2 hrow2
   by_cases he:x.height=h
   ·have HAT:=hid (QdS HR.out.2 HX.out he)
    have e1:(x.height == h)=true:=by simpa using he
    clear he
    go_wp2
    have hrz:=Zy HR22.out (.int .i64 x.height) (.int .i64 x.time) (.slice o2 x.root.length c2) (.slice o3 x.next.length c3)
    obtain ⟨⟨u0,u1,u2,u3⟩,-⟩:=hrz.four
    have hbz:=JV HBW2.out (show w.heap.size≤w.heap.size+1 by omega) (.int .i64 x.height) (.int .i64 x.time) (.slice o2 x.root.length c2) (.slice o3 x.next.length c3)
    have v2:=Qao (g:=w.heap.size+1) (a:=.int .i64 x.height) (b:=.int .i64 x.time) (c:=.slice o2 x.root.length c2) (d:=.slice o3 x.next.length c3) (HBY.out.1.below (HBW2.out.mono hN)) (by omega)
    have v3:=Qao (g:=w.heap.size+1) (a:=.int .i64 x.height) (b:=.int .i64 x.time) (c:=.slice o2 x.root.length c2) (d:=.slice o3 x.next.length c3) (HBY.out.2.below (HBW2.out.mono hN)) (by omega)
    unfold Qb7 at u0 u1 u2 u3
    refine bodyPost_ret (v:=.tuple #[.agg #[.int .i64 x.height,.int .i64 x.time,.slice o2 x.root.length c2,.slice o3 x.next.length c3],.bool true]) (by simp [results,Tryz.results88,go_sem,u0,u1,u2,u3]) rfl ⟨hbz,o2,c2,o3,c3,?_⟩
    rw [Zi HAT.out,HAT.out]
    exact ⟨rfl,v2,v3⟩
   ·have HTK:=hid (show ∀ y∈l.take (k+1),y.height≠h from fun y hy=>by
     rw [List.take_add_one,HX.out] at hy
     rcases List.mem_append.1 hy with hy | hy
     ·exact HR.out.2 y hy
     ·obtain rfl:y=x:=by simpa using hy
      exact he)
    have e1:(x.height == h)=false:=by simpa using he
    clear he
    go_wp2
    go_roundw
    case rel=>exact ⟨k+1,by omega,by go_num,hid ⟨HB2.out,HTK.out⟩⟩
    case measure=>simp [intOf];omega
  ·have hge:decide ((k:Int)<(n:Int))=false:=by simp;omega
   have HNO:=hid (show atK l h=none from Qh5 fun x hx=>HR.out.2 x (by rw [List.take_of_length_le (by rw [HN.out];omega)];exact hx))
   have HR21:=hid (HR2.out.below HR.out.1 HR2.out.lt)
   obtain ⟨⟨y0,y1,y2,y3⟩,z0,z1,z2,z3⟩:=HR21.out.four
   go_wp2
   have hrz:=Zy HR21.out (.int .i64 0) (.int .i64 0) (.slice none 0 0) (.slice none 0 0)
   obtain ⟨⟨u0,u1,u2,u3⟩,-⟩:=hrz.four
   have hbz:=JV HBW.out (show w.heap.size≤w.heap.size+1 by omega) (.int .i64 0) (.int .i64 0) (.slice none 0 0) (.slice none 0 0)
   unfold Qb7 at u0 u1 u2 u3
   refine bodyPost_ret (v:=.tuple #[.agg #[.int .i64 0,.int .i64 0,.slice none 0 0,.slice none 0 0],.bool false]) (by simp [results,Tryz.results88,go_sem,u0,u1,u2,u3]) rfl ⟨hbz,none,0,none,0,?_⟩
   rw [QdX HNO.out,HNO.out]
   exact ⟨rfl,.inl ⟨rfl,rfl⟩,.inl ⟨rfl,rfl⟩⟩
theorem QdI (c:Cl) (n:Nat) (x:Kn) (v:Value) (N:Nat) (w:World) (hv:ClV w N v c) (hN:N≤w.heap.size) (hn:c.known.length=n+1) (hx:c.known[n]?=some x) (h30:n≤30) :
  Calls Tryz.prog 104 #[v] w fun e w'=>Below w.heap.size w w'∧∃ o2 c2 o3 c3,e=.returned (.agg #[.int .i64 x.height,.int .i64 x.time,.slice o2 x.root.length c2,.slice o3 x.next.length c3])∧Bytes w' N (.slice o2 x.root.length c2) x.root∧Bytes w' N (.slice o3 x.next.length c3) x.next:=by
 obtain ⟨kv,rfl,hk⟩:=hv
 obtain ⟨oa,ca,rfl,hca⟩:=hk.shape
 obtain ⟨w0,hw0⟩:∃ w0,(w.alloc (.cells #[.string c.chain,.int .i64 c.trust,.bool c.frozen,.slice oa c.known.length ca] 72)).alloc (.cells #[.int .i64 0,.int .i64 0,.slice none 0 0,.slice none 0 0] 114)=w0:=⟨_,rfl⟩
 have hb0:Below w.heap.size w w0:=by rw [← hw0];exact ((Below.refl _ _).alloc (Nat.le_refl _) _).alloc (by simp) _
 have hr0:Row w0 w.heap.size 72 [.string c.chain,.int .i64 c.trust,.bool c.frozen,.slice oa c.known.length ca]:=by rw [← hw0];exact (Row.new _ _ _).alloc _
 have hr2:Row w0 (w.heap.size+1) 114 [.int .i64 0,.int .i64 0,.slice none 0 0,.slice none 0 0]:=by rw [← hw0];exact Row.newAt _ _ _ _ (by simp)
 obtain ⟨b,o,rfl,hcells⟩:=hk.spot (by omega)
 obtain ⟨hbN,vr,vn,d0,d1,d2,d3,b2,b3⟩:=hcells n x hx
 obtain ⟨o2,c2,rfl,-⟩:=b2.shape
 obtain ⟨o3,c3,rfl,-⟩:=b3.shape
 have hbl:b<w.heap.size:=by omega
 have f0:=(hb0.cell (p:=⟨b,o+n*4,none⟩) hbl).trans d0
 have f1:=(hb0.cell (p:=⟨b,o+n*4+1,none⟩) hbl).trans d1
 have f2:=(hb0.cell (p:=⟨b,o+n*4+2,none⟩) hbl).trans d2
 have f3:=(hb0.cell (p:=⟨b,o+n*4+3,none⟩) hbl).trans d3
 have HB0:=hid hb0
 have HR2:=hid hr2
 have k3:=hr0.cell 3
 simp only [List.getElem?_cons_zero,List.getElem?_cons_succ] at k3
 obtain ⟨⟨y0,y1,y2,y3⟩,z0,z1,z2,z3⟩:=hr2.four
 have HBY:=hid (And.intro b2 b3)
 have hj1:((n+1:Nat):Int)-1=(n:Int):=by omega
 have hj2:IntKind.i64.wrap (((n+1:Nat):Int)-1)=(n:Int):=by rw [hj1,IntKind.wrap_i64];omega
 have hjn:(n:Int)<((n+1:Nat):Int):=by omega
 rw [hn] at k3 hw0
 rw [hn]
 clear hk hb0 hr0 hr2 hcells d0 d1 d2 d3 b2 b3 hx hn hca
 generalize hm:n+1=m at *
 clear hm hj1
 go_enter Tryz.func104,Tryz.ntmps104
 go_wp2
 have hrz:=Zy HR2.out (.int .i64 x.height) (.int .i64 x.time) (.slice o2 x.root.length c2) (.slice o3 x.next.length c3)
 obtain ⟨⟨u0,u1,u2,u3⟩,-⟩:=hrz.four
 have hbz:=JV HB0.out (show w.heap.size≤w.heap.size+1 by omega) (.int .i64 x.height) (.int .i64 x.time) (.slice o2 x.root.length c2) (.slice o3 x.next.length c3)
 have v2:=HBY.out.1.below (hbz.mono hN)
 have v3:=HBY.out.2.below (hbz.mono hN)
 unfold Qb7 at u0 u1 u2 u3
 exact bodyPost_ret (v:=.agg #[.int .i64 x.height,.int .i64 x.time,.slice o2 x.root.length c2,.slice o3 x.next.length c3]) (by simp [results,Tryz.results104,go_sem,u0,u1,u2,u3]) rfl ⟨hbz,o2,c2,o3,c3,rfl,v2,v3⟩
theorem Qc8:QgI 86:=by
 intro c now v N w hv hN hc hnow
 have HCV:=hid hv
 obtain ⟨kv,rfl,hk⟩:=hv
 obtain ⟨oa,ca,rfl,hca⟩:=hk.shape
 obtain ⟨w0,hw0⟩:∃ w0,w.alloc (.cells #[.string c.chain,.int .i64 c.trust,.bool c.frozen,.slice oa c.known.length ca] 72)=w0:=⟨_,rfl⟩
 have hb0:=bof hw0
 have HB0:=hid hb0
 have hr0:Row w0 w.heap.size 72 [.string c.chain,.int .i64 c.trust,.bool c.frozen,.slice oa c.known.length ca]:=by rw [← hw0];exact Row.new _ _ _
 obtain ⟨⟨y0,y1,y2,y3⟩,-⟩:=hr0.four
 have HR0:=hid hr0
 cases hfz:c.frozen with
 | true =>
  have HA:=hid (Qav now hfz)
  rw [hfz] at y2
  have HW0:=hid hw0
  rw [hfz] at HW0
  clear hw0 hb0 hk hr0 hfz
  go_enter Tryz.func86,Tryz.ntmps86
  go_wp2_with fail
  rw [HW0.out]
  go_quiet (fail)
  go_wp2
  go_ret
  exact ⟨by rw [HA.out];first | done | rfl,HB0.out.trans (QF _ _ _)⟩
 | false =>
  obtain ⟨-,⟨ht1,ht2⟩,⟨hn1,hn2⟩,hall,-⟩:=(QaR c).1 hc
  obtain ⟨n,hn⟩:∃ n,c.known.length=n+1:=⟨c.known.length-1,by omega⟩
  obtain ⟨x,hx⟩:∃ x,c.known[n]?=some x:=⟨c.known[n]'(by omega),List.getElem?_eq_getElem _⟩
  have hxt:=((Qdr x).1 (hall x (List.mem_of_getElem? hx))).1
  have HA:=hid (show QM c now=decide (now<x.time+c.trust) by
   rw [Qbq (now:=now) hfz hn hx,Bool.eq_iff_iff]
   simp
   omega)
  have hwr:IntKind.i64.wrap (x.time+c.trust)=x.time+c.trust:=by rw [IntKind.wrap_i64];omega
  have HLA:=hid (fun wx (hwx:Below w0.heap.size w0 wx)=>by
   have hbx:=(hb0.trans (hwx.mono hb0.size)).mono hN
   have hq:ClV wx N (.agg #[.string c.chain,.int .i64 c.trust,.bool false,.slice oa c.known.length ca]) c:=by rw [← hfz];exact HCV.out.below hbx
   exact QdI c n x _ N wx hq (Nat.le_trans hN (hb0.trans (hwx.mono hb0.size)).size) hn hx (by omega))
  rw [hfz] at y2
  have HW0:=hid hw0
  rw [hfz] at HW0
  have HBD:=hid (show Below w0.heap.size w0 w0.drew from (Below.refl _ _).drew)
  clear hw0 hb0 hk hr0 hfz hall hn hx hxt hn1 hn2 hca hc ht1 ht2
  have hfld:=Qep
  go_enter Tryz.func86,Tryz.ntmps86
  go_wp2_with fail
  rw [HW0.out]
  have HLT:=hid HR0.out.lt
  have HBC:=hid (show ∀ wx,Below w0.heap.size w0 wx→(wx.cell? ⟨w.heap.size,0,none⟩=some (.string c.chain)∧wx.cell? ⟨w.heap.size,1,none⟩=some (.int .i64 c.trust))∧(wx.cell? ⟨w.heap.size,2,none⟩=some (.bool false)∧wx.cell? ⟨w.heap.size,3,none⟩=some (.slice oa c.known.length ca)) from fun wx hx=>⟨⟨(hx.cell (p:=⟨w.heap.size,0,none⟩) HLT.out).trans y0,(hx.cell (p:=⟨w.heap.size,1,none⟩) HLT.out).trans y1⟩,(hx.cell (p:=⟨w.heap.size,2,none⟩) HLT.out).trans y2,(hx.cell (p:=⟨w.heap.size,3,none⟩) HLT.out).trans y3⟩)
  have s0:(w0.cell? ⟨w.heap.size,0,none⟩=some (.string c.chain)∧w0.cell? ⟨w.heap.size,1,none⟩=some (.int .i64 c.trust))∧(w0.cell? ⟨w.heap.size,2,none⟩=some (.bool false)∧w0.cell? ⟨w.heap.size,3,none⟩=some (.slice oa c.known.length ca)):=⟨⟨y0,y1⟩,y2,y3⟩
  have s1:(w0.drew.cell? ⟨w.heap.size,0,none⟩=some (.string c.chain)∧w0.drew.cell? ⟨w.heap.size,1,none⟩=some (.int .i64 c.trust))∧(w0.drew.cell? ⟨w.heap.size,2,none⟩=some (.bool false)∧w0.drew.cell? ⟨w.heap.size,3,none⟩=some (.slice oa c.known.length ca)):=s0
  go_region_held3 (fun W=>(W.cell? ⟨w.heap.size,0,none⟩=some (.string c.chain)∧W.cell? ⟨w.heap.size,1,none⟩=some (.int .i64 c.trust))∧(W.cell? ⟨w.heap.size,2,none⟩=some (.bool false)∧W.cell? ⟨w.heap.size,3,none⟩=some (.slice oa c.known.length ca))) (first | assumption) (first
   | (go_at_call 104;refine (HLA.out _ HBD.out).mono ?_;rintro e w5 ⟨hb5,o2,c2,o3,c3,rfl,-,-⟩;have HB5:=hid (HB0.out.trans ((HBD.out.trans hb5).mono HB0.out.size));have s5:=HBC.out w5 (HBD.out.trans hb5);clear hb5))
  all_goals
   go_wp2
   go_ret
   exact ⟨by rw [HA.out];first | done | rfl,HB5.out⟩
theorem QhP:Qh1 87:=by
 intro c now v N w hv hN hfit
 have HWR:=hid (fun wx (hx:Below w.heap.size w wx)=>Qck c v N wx (hv.below (hx.mono hN)) (Nat.le_trans hN hx.size) hfit)
 obtain ⟨kv,rfl,hk⟩:=hv
 obtain ⟨oa,ca,rfl,hca⟩:=hk.shape
 obtain ⟨w0,hw0⟩:∃ w0,w.alloc (.cells #[.string c.chain,.int .i64 c.trust,.bool c.frozen,.slice oa c.known.length ca] 72)=w0:=⟨_,rfl⟩
 have hb0:=bof hw0
 have HB0:=hid hb0
 have hr0:Row w0 w.heap.size 72 [.string c.chain,.int .i64 c.trust,.bool c.frozen,.slice oa c.known.length ca]:=by rw [← hw0];exact Row.new _ _ _
 obtain ⟨⟨y0,y1,y2,y3⟩,-⟩:=hr0.four
 have HR0:=hid hr0
 have HW0:=hid hw0
 clear hw0 hb0 hk hr0 hfit
 by_cases hc:Qg c=0
 ·have HCZ:=hid hc
  by_cases ht:now<0∨1000000000000<now
  ·have HTM:=hid (Yq ht)
   have HA:=hid (Qbs hc ht)
   clear hc ht
   go_enter Tryz.func87,Tryz.ntmps87
   go_wp2_with fail
   rw [HW0.out]
   refine (HWR.out _ HB0.out).mono ?_
   rintro e w1 ⟨rfl,hb1⟩
   rw [HCZ.out]
   have HB1:=hgo HB0 hb1
   clear hb1
   go_wp2_with (go_at_call 85;refine (QQ _ _).mono ?_;rintro e w' ⟨rfl,hw'⟩;obtain rfl:=hw'.symm;rw [HTM.out])
   go_ret
   exact ⟨by rw [HA.out];first | done | rfl,HB1.out⟩
  ·have HTM:=hid (Yg ht)
   by_cases hfz:c.frozen=true
   ·have HA:=hid (Qa6 (now:=now) hc (by omega) hfz)
    have HFZ:=hid hfz
    clear hc ht hfz
    go_enter Tryz.func87,Tryz.ntmps87
    go_wp2_with fail
    rw [HW0.out]
    refine (HWR.out _ HB0.out).mono ?_
    rintro e w1 ⟨rfl,hb1⟩
    rw [HCZ.out]
    have HB1:=hgo HB0 hb1
    have r2:=(HR0.out.below hb1 HR0.out.lt).cell 2
    simp only [HFZ.out] at r2
    clear hb1
    go_wp2_with (go_at_call 85;refine (QQ _ _).mono ?_;rintro e w' ⟨rfl,hw'⟩;obtain rfl:=hw'.symm;rw [HTM.out])
    go_ret
    exact ⟨by rw [HA.out];first | done | rfl,HB1.out⟩
   ·have hfz':c.frozen=false:=by simpa using hfz
    have HA:=hid (QdR (now:=now) hc (by omega) hfz')
    have HFZ:=hid hfz'
    clear hc ht hfz hfz'
    go_enter Tryz.func87,Tryz.ntmps87
    go_wp2_with fail
    rw [HW0.out]
    refine (HWR.out _ HB0.out).mono ?_
    rintro e w1 ⟨rfl,hb1⟩
    rw [HCZ.out]
    have HB1:=hgo HB0 hb1
    have r2:=(HR0.out.below hb1 HR0.out.lt).cell 2
    simp only [HFZ.out] at r2
    clear hb1
    go_wp2_with (go_at_call 85;refine (QQ _ _).mono ?_;rintro e w' ⟨rfl,hw'⟩;obtain rfl:=hw'.symm;rw [HTM.out])
    go_ret
    exact ⟨by rw [HA.out];first | done | rfl,HB1.out⟩
 ·have HA:=hid (Qbt (now:=now) hc)
  have e1:(Qg c != 0)=true:=by simpa using hc
  clear hc
  generalize Qg c=z at *
  go_enter Tryz.func87,Tryz.ntmps87
  go_wp2_with fail
  rw [HW0.out]
  refine (HWR.out _ HB0.out).mono ?_
  rintro e w1 ⟨rfl,hb1⟩
  have HB1:=hgo HB0 hb1
  clear hb1
  go_wp2
  go_ret
  exact ⟨by rw [HA.out];first | done | rfl,HB1.out⟩
end Go.Proofs.YtbgdpfeobklnhaaGreatDoor
