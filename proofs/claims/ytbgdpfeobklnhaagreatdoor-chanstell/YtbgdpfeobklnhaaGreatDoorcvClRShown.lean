/-
  What the document's Member and Missing answer.
-/
import Derived.Test.YtbgdpfeobklnhaaGreatDoorcvBookMath
import Derived.Test.YtbgdpfeobklnhaaGreatDoorcvPairsAll
import Derived.Test.YtbgdpfeobklnhaaGreatDoorcvBookTree
import Derived.Test.YtbgdpfeobklnhaaGreatDoorcvSameB
import Derived.Test.YtbgdpfeobklnhaaGreatDoorcvClShown
import Derived.Test.YtbgdpfeobklnhaaGreatDoorcvClRAsk
namespace Go.Proofs.YtbgdpfeobklnhaaGreatDoor
set_option maxRecDepth 1000000
set_option maxHeartbeats 8000000
open Go.RowKit
theorem Qen (w:World) (n N:Nat):Below N w (w.drewN n):=⟨rfl,rfl,rfl,Nat.le_refl _,fun _ _=>rfl⟩
theorem Qey (r:List (BitVec 8)) (p:Prf) (rv v:Value) (N:Nat) (w:World) (hN:N≤w.heap.size) (hr:Bytes w N rv r) (hp:Qa3 w N v p) (_hf:p.fits) (hrl:r.length≤140737488351232) :
  Calls Tryz.prog 89 #[rv,v] w fun e w'=>Below w.heap.size w w'∧Jl (Y5 r p) e:=by
 obtain ⟨kv,vv,pv,rfl,hk,hv,hpt⟩:=hp
 obtain ⟨o1,c1,rfl,_⟩:=hk.shape
 obtain ⟨o2,c2,rfl,_⟩:=hv.shape
 obtain ⟨o3,c3,rfl,_⟩:=hpt.shape
 obtain ⟨w1,hw1⟩:∃ w1,w.alloc (.cells #[.int .i64 p.index,.int .i64 p.size,.slice o1 p.key.length c1,.slice o2 p.val.length c2,.slice o3 p.path.length c3] 32)=w1:=⟨_,rfl⟩
 have hsz1:w1.heap.size=w.heap.size+1:=by rw [← hw1];simp
 have hb1:=bof hw1
 have hrow1:Row w1 w.heap.size 32 [.int .i64 p.index,.int .i64 p.size,.slice o1 p.key.length c1,.slice o2 p.val.length c2,.slice o3 p.path.length c3]:=by rw [← hw1];exact Row.new _ _ _
 have HB1:=hid hb1
 have HR1:=hid hrow1
 have HW1:=hid hw1
 have HK:=hid (hk.below (hb1.mono hN))
 have HV:=hid (hv.below (hb1.mono hN))
 have HP:=hid (hpt.below (hb1.mono hN))
 have HR:=hid (hr.below (hb1.mono hN))
 have q0:=HR1.out.cell 0
 have q1:=HR1.out.cell 1
 have q2:=HR1.out.cell 2
 have q3:=HR1.out.cell 3
 have q4:=HR1.out.cell 4
 clear hk hv hpt hr hb1 hrow1 hw1
 have HSH:=hid (show Y5 r p↔(1≤p.size∧p.size≤200∧0≤p.index∧p.index<p.size∧p.key.length≤60∧p.val.length≤200∧p.path.length=(JW p.index.toNat p.size.toNat 0).length∧(∀ d∈p.path,d.length=32) ∧
  QhX p.size.toNat (upD (JW p.index.toNat p.size.toNat 0) p.path.reverse (QY p.key p.val))=r) from Iff.rfl)
 go_enter Tryz.func89,Tryz.ntmps89
 by_cases g1:p.size<1
 ·have e1:decide (p.size<1)=true:=by simpa using g1
  go_wp2
  go_ret
  exact ⟨by rw [HW1.out];exact HB1.out,Jl.no (fun h=>by have h:=HSH.out.1 h;omega)⟩
 have e1:decide (p.size<1)=false:=by simpa using g1
 by_cases g2:200<p.size
 ·have e2:decide ((200:Int)<p.size)=true:=by simpa using g2
  go_wp2
  go_ret
  exact ⟨by rw [HW1.out];exact HB1.out,Jl.no (fun h=>by have h:=HSH.out.1 h;omega)⟩
 have e2:decide ((200:Int)<p.size)=false:=by simpa using g2
 by_cases g3:p.index<0
 ·have e3:decide (p.index<0)=true:=by simpa using g3
  go_wp2
  go_ret
  exact ⟨by rw [HW1.out];exact HB1.out,Jl.no (fun h=>by have h:=HSH.out.1 h;omega)⟩
 have e3:decide (p.index<0)=false:=by simpa using g3
 by_cases g4:p.size≤p.index
 ·have e4:decide (p.size≤p.index)=true:=by simpa using g4
  go_wp2
  go_ret
  exact ⟨by rw [HW1.out];exact HB1.out,Jl.no (fun h=>by have h:=HSH.out.1 h;omega)⟩
 have e4:decide (p.size≤p.index)=false:=by simpa using g4
 by_cases g5:60<p.key.length
 ·have e5:decide ((60:Int)<(p.key.length:Int))=true:=by simp;omega
  go_wp2
  go_ret
  exact ⟨by rw [HW1.out];exact HB1.out,Jl.no (fun h=>by have h:=HSH.out.1 h;omega)⟩
 have e5:decide ((60:Int)<(p.key.length:Int))=false:=by simp;omega
 by_cases g6:200<p.val.length
 ·have e6:decide ((200:Int)<(p.val.length:Int))=true:=by simp;omega
  go_wp2
  go_ret
  exact ⟨by rw [HW1.out];exact HB1.out,Jl.no (fun h=>by have h:=HSH.out.1 h;omega)⟩
 have e6:decide ((200:Int)<(p.val.length:Int))=false:=by simp;omega
 obtain ⟨n,hn⟩:∃ n:Nat,p.size=(n:Int):=⟨p.size.toNat,by omega⟩
 obtain ⟨i,hi⟩:∃ i:Nat,p.index=(i:Int):=⟨p.index.toNat,by omega⟩
 have HWY:=hid (Qgn i n w1 (by omega) (by omega))
 rw [← hn,← hi] at HWY
 obtain ⟨ws,hws⟩:∃ ws,JW i n 0=ws:=⟨_,rfl⟩
 rw [hws] at HWY
 have HWL:=hid (show ws.length≤n by rw [← hws];exact Y1 n i 0)
 have HSH2:=hid (show Y5 r p↔(p.path.length=ws.length∧(∀ d∈p.path,d.length=32)∧QhX n (upD ws p.path.reverse (QY p.key p.val))=r) from by
  rw [HSH.out,hn,hi,Int.toNat_natCast,Int.toNat_natCast,hws]
  constructor
  ·rintro ⟨_,_,_,_,_,_,h1,h2,h3⟩
   exact ⟨h1,h2,h3⟩
  ·rintro ⟨h1,h2,h3⟩
   exact ⟨by omega,by omega,by omega,by omega,by omega,by omega,h1,h2,h3⟩)
 have hn200:n≤200:=by omega
 have HSZP:=hid hn
 have HKL:=hid (show p.key.length≤60∧p.val.length≤200 by omega)
 clear hws hn hi HSH
 go_wp2_with fail
 rw [HW1.out]
 refine HWY.out.mono ?_
 rintro e w2 ⟨vw,rfl,hrw,hb2⟩
 have hsz2:=hb2.size
 obtain ⟨ow,cw,rfl,hcw⟩:=hrw.shape
 have HRW:=hid hrw
 have HB2:=hid (HB1.out.trans (hb2.mono (by omega)))
 have HR2:=hid (HR1.out.below hb2 (by omega))
 have HK2:=hid (HK.out.below (hb2.mono (by omega)))
 have HV2:=hid (HV.out.below (hb2.mono (by omega)))
 have HP2:=hid (HP.out.below (hb2.mono (by omega)))
 have HRT2:=hid (HR.out.below (hb2.mono (by omega)))
 clear hrw hb2 HWY q0 q1 q2 q3 q4 e1 e2 e3 e4 e5 e6 g1 g2 g3 g4 g5 g6 HK HV HP HR HR1
 have q1:=HR2.out.cell 1
 have q2:=HR2.out.cell 2
 have q3:=HR2.out.cell 3
 have q4:=HR2.out.cell 4
 generalize hm:ws.length=m at *
 have HM:=hid hm
 clear hm
 generalize hmp:p.path.length=mp at *
 have HMP:=hid hmp
 clear hmp
 by_cases hlen:mp=m
 ·subst hlen
  have hmp200:mp≤200:=by have:=HWL.out;omega
  have e1:((mp:Int) != (mp:Int))=false:=by simp
  have HLF:=hid (Qfo p.key p.val (.slice o1 p.key.length c1) (.slice o2 p.val.length c2) N w2 (by omega) HK2.out HV2.out (by have:=HKL.out;omega) (by have:=HKL.out;omega))
  go_wp2_with fail
  refine HLF.out.mono ?_
  rintro e w3 ⟨o4,c4,rfl,hown3,hb3⟩
  have hsz3:=hb3.size
  have HB3:=hid (HB2.out.trans (hb3.mono (by omega)))
  have HR3:=hid (HR2.out.below hb3 (by omega))
  have HP3:=hid (HP2.out.below (hb3.mono (by omega)))
  have HRT3:=hid (HRT2.out.below (hb3.mono (by omega)))
  have HRW3:=hid (HRW.out.below hb3)
  have HO3:=hid hown3
  clear hb3 hown3 q1 q2 q3 q4 HLF HRW HR2 HK2 HV2 HP2 HRT2
  have q4:=HR3.out.cell 4
  go_wp2_with fail
  go_loopw [6,60] (fun s6 s60 wr=>∃ k:Nat,k≤mp∧s60=.int .i64 (k:Int)∧Hid (Qq wr w2.heap.size s6 (upK ws p.path k (QY p.key p.val))∧Below w3.heap.size w3 wr∧∀ d∈p.path.take k,d.length=32)) (fun _ s60 _=>mp-(intOf s60).toNat)
  case atStart=>exact ⟨0,Nat.zero_le _,rfl,hid ⟨by rw [QfH];exact HO3.out,Below.refl _ _,by simp⟩⟩
  case round =>
   obtain ⟨k,hk,rfl,HR⟩:=hrel
   have hszr:=HR.out.2.1.size
   by_cases hlt:k<mp
   ·have hlp:Q8 w3 N (.slice o3 p.path.length c3) p.path:=by rw [HMP.out];exact HP3.out
    obtain ⟨b,o,rfl,hc⟩:=hlp.some (by rw [HMP.out];omega)
    obtain ⟨hbN,x,hx,hbx⟩:=hc k (by rw [HMP.out];exact hlt)
    obtain ⟨d,hd⟩:∃ d,p.path.getD k []=d:=⟨_,rfl⟩
    have hdk:p.path[k]?=some d:=by rw [← hd];exact getD_some _ _ _ (by rw [HMP.out];exact hlt)
    rw [hd] at hbx
    obtain ⟨od,cd,rfl,_⟩:=hbx.shape
    have f0:=(HR.out.2.1.cell (p:=⟨b,o+k,none⟩) (show b<w3.heap.size by omega)).trans hx
    have HDB:=hid (hbx.below (HR.out.2.1.mono (show N≤w3.heap.size by omega)))
    have HDM:=hid (List.mem_of_getElem? hdk)
    have HDK:=hid hdk
    have hlt':(k:Int)<(mp:Int):=by omega
    obtain ⟨oy,cy,hsy,_⟩:=HR.out.1.shape
    have HY32:=hid (Qcy ws p.path k (QY p.key p.val) (by unfold QY;exact Jb _))
    rw [HY32.out] at hsy
    subst hsy
    clear hlp hc hx hbx hd hdk
    by_cases h32:d.length=32
    ·have e2:((d.length:Int) != 32)=false:=by simp;omega
     obtain ⟨t,ht⟩:∃ t,ws[mp-1-k]?=some t:=⟨ws[mp-1-k]'(by rw [HM.out];omega),List.getElem?_eq_getElem _⟩
     obtain ⟨gw,rfl,_,hgw,hcw2⟩:=HRW3.out.get (by omega)
     obtain ⟨t0,_,_⟩:=hcw2 (mp-1-k) t ht
     have k0:=(HR.out.2.1.cell (p:=⟨gw,(mp-1-k)*3,none⟩) hgw).trans t0
     have HUP:=hid (QfG ws p.path k (QY p.key p.val) t d (by rw [HM.out];exact ht) (by rw [HM.out];exact hlt) HDK.out)
     have HTK:=hid (show ∀ d'∈p.path.take (k+1),d'.length=32 from fun d' hd'=>by
      obtain ⟨j,hj,rfl⟩:=List.getElem_of_mem hd'
      rw [List.getElem_take]
      by_cases ej:j=k
      ·subst ej
       have:=HDK.out
       rw [List.getElem?_eq_getElem (by rw [HMP.out];omega)] at this
       obtain h:=Option.some.inj this
       rw [h]
       exact h32
      ·have hjl:j<k:=by simp at hj;omega
       refine HR.out.2.2 _ ?_
       rw [List.mem_iff_getElem]
       exact ⟨j,by simp;rw [HMP.out];omega,by rw [List.getElem_take]⟩)
     have j1:IntKind.i64.wrap ((mp:Int)-1)=(mp:Int)-1:=by rw [IntKind.wrap_i64];omega
     have j2:(mp:Int)-1-(k:Int)=((mp-1-k:Nat):Int):=by omega
     have j3:IntKind.i64.wrap ((mp:Int)-1-(k:Int))=((mp-1-k:Nat):Int):=by rw [IntKind.wrap_i64];omega
     have j4:((mp-1-k:Nat):Int)<(mp:Int):=by omega
     have hdl:d.length≤100000:=by omega
     have HSZR:=hid (show w2.heap.size≤wr.heap.size by omega)
     rw [h32] at f0 HDB
     obtain ⟨jj,hjj⟩:∃ jj,mp-1-k=jj:=⟨_,rfl⟩
     rw [hjj] at k0 j2 j3 j4
     clear hcw2 t0 hjj e2
     cases htr:t.right with
     | true =>
      rw [htr] at k0
      have HND:=hid (Qcl d (upK ws p.path k (QY p.key p.val)) (.slice od 32 cd) (.slice oy 32 cy) wr.heap.size wr (Nat.le_refl _) (HDB.out.mono (by omega)) HR.out.1.bytes hdl (by rw [HY32.out];decide))
      have HU2:=hid (show upK ws p.path (k+1) (QY p.key p.val)=Qc0 d (upK ws p.path k (QY p.key p.val)) by rw [HUP.out,if_pos htr])
      clear htr
      go_wp2_with fail
      refine HND.out.mono ?_
      rintro e w5 ⟨o5,c5,rfl,hown5,hb5⟩
      have HO5:=hid (hown5.mono HSZR.out)
      have HB5:=hid (HR.out.2.1.trans (hb5.mono hszr))
      clear hown5 hb5
      go_wp2_with fail
      exact ⟨⟨k+1,by omega,by go_num,hid ⟨by rw [HU2.out];exact HO5.out,HB5.out,HTK.out⟩⟩,by simp [intOf];omega⟩
     | false =>
      rw [htr] at k0
      have HND:=hid (Qcl (upK ws p.path k (QY p.key p.val)) d (.slice oy 32 cy) (.slice od 32 cd) wr.heap.size wr (Nat.le_refl _) HR.out.1.bytes (HDB.out.mono (by omega)) (by rw [HY32.out];decide) hdl)
      have HU2:=hid (show upK ws p.path (k+1) (QY p.key p.val)=Qc0 (upK ws p.path k (QY p.key p.val)) d by rw [HUP.out,if_neg (by rw [htr];decide)])
      clear htr
      go_wp2_with fail
      refine HND.out.mono ?_
      rintro e w5 ⟨o5,c5,rfl,hown5,hb5⟩
      have HO5:=hid (hown5.mono HSZR.out)
      have HB5:=hid (HR.out.2.1.trans (hb5.mono hszr))
      clear hown5 hb5
      go_wp2_with fail
      exact ⟨⟨k+1,by omega,by go_num,hid ⟨by rw [HU2.out];exact HO5.out,HB5.out,HTK.out⟩⟩,by simp [intOf];omega⟩
    ·have e2:((d.length:Int) != 32)=true:=by simp;omega
     have HBR:=hid (HB3.out.trans (HR.out.2.1.mono (by omega)))
     go_wp2
     go_ret
     exact ⟨HBR.out,Jl.no (fun h=>h32 ((HSH2.out.1 h).2.1 d HDM.out))⟩
   ·have hge:decide ((k:Int)<(mp:Int))=false:=by simp;omega
    obtain rfl:k=mp:=by omega
    have HRR:=hid (HR3.out.below HR.out.2.1 (by omega))
    have r1:=HRR.out.cell 1
    have HUA:=hid (show upK ws p.path k (QY p.key p.val)=upD ws p.path.reverse (QY p.key p.val) by
     have:=Qg3 ws p.path (QY p.key p.val) (by rw [HMP.out,HM.out])
     rw [HM.out] at this
     exact this)
    have HALL:=hid (show ∀ d∈p.path,d.length=32 from fun d hd=>HR.out.2.2 d (by rw [List.take_of_length_le (by rw [HMP.out];exact Nat.le_refl _)];exact hd))
    have HTP:=hid (Qgm n (upK ws p.path k (QY p.key p.val)) u6 wr.heap.size wr (Nat.le_refl _) HR.out.1.bytes (by omega) (by rw [Qcy ws p.path k (QY p.key p.val) (by unfold QY;exact Jb _)];decide))
    rw [← HSZP.out] at HTP
    have HBR:=hid (HB3.out.trans (HR.out.2.1.mono (by omega)))
    have HRTR:=hid (HRT3.out.below (HR.out.2.1.mono (by omega)))
    go_wp2_with fail
    refine HTP.out.mono ?_
    rintro e w5 ⟨o5,c5,rfl,hown5,hb5⟩
    have HB5:=hid (HBR.out.trans (hb5.mono (by omega)))
    have HS5:=hid (Zj (QhX n (upK ws p.path k (QY p.key p.val))) r (.slice o5 32 c5) rv w5.heap.size N w5 hown5.bytes (HRTR.out.below (hb5.mono (by omega))) (by unfold QhX;rw [Jb];decide) (by omega))
    clear hown5 hb5 HTP
    go_wp2_with fail
    refine HS5.out.mono ?_
    rintro e w6 ⟨rfl,q6,rfl⟩
    go_wp2
    go_ret
    refine ⟨HB5.out.trans (Qen _ _ _),_,rfl,?_⟩
    rw [decide_eq_true_iff,HSH2.out,HUA.out]
    constructor
    ·intro h
     exact ⟨by trivial,HALL.out,h⟩
    ·rintro ⟨_,_,h⟩
     exact h
 ·have e1:((m:Int) != (mp:Int))=true:=by simp;omega
  go_wp2
  go_ret
  exact ⟨HB2.out,Jl.no (fun h=>by have h:=HSH2.out.1 h;exact absurd h.1 hlen)⟩
theorem QhQ:Qh3 89:=fun r p rv v N w _ hN hr hp hf hrl=>Qey r p rv v N w hN hr hp hf hrl
theorem Qgk:QaT 62:=by
 intro c now height key val p cv kv vv pv N w htab hN hcv hk hv hp hcf hkl hvl hpf
 have HSS:=hid (show ∀ wx,Below w.heap.size w wx→∀ (root:List (BitVec 8)) (rv:Value),Bytes wx wx.heap.size rv root→root.length≤140737488351232→_ from fun wx hx root rv hr hrl=>QhQ root p rv pv wx.heap.size wx (htab.below hx htab.lt) (Nat.le_refl _) hr ((hp.below (hx.mono hN)).mono (Nat.le_trans hN hx.size)) hpf hrl)
 have HP:=hid hp
 have HKK:=hid hk
 have HV:=hid hv
 obtain ⟨x1,x2,x3,rfl,h1,h2,h3⟩:=hp
 have HE1:=hid (fun wx (hx:Below w.heap.size w wx)=>Zj p.key key x1 kv N N wx (h1.below (hx.mono hN)) (hk.below (hx.mono hN)) (by have:=hpf.1;omega) (by omega))
 have HE2:=hid (fun wx (hx:Below w.heap.size w wx)=>Zj p.val val x2 vv N N wx (h2.below (hx.mono hN)) (hv.below (hx.mono hN)) (by have:=hpf.2.1;omega) (by omega))
 obtain ⟨q1,y1,rfl,-⟩:=h1.shape
 obtain ⟨q2,y2,rfl,-⟩:=h2.shape
 obtain ⟨q3,y3,rfl,-⟩:=h3.shape
 obtain ⟨o1,c1,rfl,-⟩:=hk.shape
 obtain ⟨o2,c2,rfl,-⟩:=hv.shape
 clear h1 h2 h3 hk hv hpf hkl hvl
 have HAS:=hid (fun wx (hx:Below w.heap.size w wx)=>QhP c now cv N wx (hcv.below (hx.mono hN)) (Nat.le_trans hN hx.size) hcf)
 have HFI:=hid (fun wx (hx:Below w.heap.size w wx)=>Qkf c height cv N wx (hcv.below (hx.mono hN)) (Nat.le_trans hN hx.size) hcf)
 have HCV:=hid hcv
 have HCF:=hid hcf
 obtain ⟨xv,rfl,hkn⟩:=hcv
 obtain ⟨oa,ca,rfl,hca⟩:=hkn.shape
 obtain ⟨w0,hw0⟩:∃ w0,(w.alloc (.cells #[.string c.chain,.int .i64 c.trust,.bool c.frozen,.slice oa c.known.length ca] 72)).alloc (.cells #[.int .i64 p.index,.int .i64 p.size,.slice q1 p.key.length y1,.slice q2 p.val.length y2,.slice q3 p.path.length y3] 32)=w0:=⟨_,rfl⟩
 have HB0:=hid (show Below w.heap.size w w0 by rw [← hw0];exact ((Below.refl _ _).alloc (Nat.le_refl _) _).alloc (by simp) _)
 have HR0:=hid (show Row w0 w.heap.size 72 [.string c.chain,.int .i64 c.trust,.bool c.frozen,.slice oa c.known.length ca] by rw [← hw0];exact (Row.new _ _ _).alloc _)
 have HP0:=hid (show Row w0 (w.heap.size+1) 32 [.int .i64 p.index,.int .i64 p.size,.slice q1 p.key.length y1,.slice q2 p.val.length y2,.slice q3 p.path.length y3] by rw [← hw0];exact Row.newAt _ _ _ _ (by simp))
 have HW0:=hid hw0
 obtain ⟨⟨a0,a1,a2,a3⟩,-⟩:=HR0.out.four
 clear hw0 hkn hcf hca htab
 go_enter Tryz.func62,Tryz.ntmps62
 go_wp2_with fail
 rw [HW0.out]
 refine (HAS.out _ HB0.out).mono ?_
 rintro e w1 ⟨rfl,hb1⟩
 have HB1:=hgo HB0 hb1
 have HR1:=rgo HR0 hb1
 have HP1:=rgo HP0 hb1
 clear hb1 a0 a1 a2 a3
 obtain ⟨⟨a0,a1,a2,a3⟩,-⟩:=HR1.out.four
 by_cases hask:Jd c now=0
 ·rw [hask]
  have HASK:=hid hask
  have HAC:=hid (show ∀ wx,Below w.heap.size w wx→Calls Tryz.prog 86 #[.agg #[.string c.chain,.int .i64 c.trust,.bool c.frozen,.slice oa c.known.length ca],.int .i64 now] wx _ from fun wx hx=>Qc8 c now _ N wx (HCV.out.below (hx.mono hN)) (Nat.le_trans hN hx.size) (QaU HASK.out).1 (QaU HASK.out).2.1)
  clear hask
  go_wp2_with fail
  refine (HFI.out _ HB1.out).mono ?_
  rintro e w2 ⟨hb2,p1,d1,p2,d2,rfl,hx1,hx2⟩
  have HB2:=hgo HB1 hb2
  have HR2:=rgo HR1 hb2
  have HP2:=rgo HP1 hb2
  clear hb2 a0 a1 a2 a3
  obtain ⟨⟨a0,a1,a2,a3⟩,-⟩:=HR2.out.four
  have m1:w.heap.size<w2.heap.size:=HR2.out.lt
  have m2:w.heap.size≠w2.heap.size:=by omega
  cases hat:atK c.known height with
  | none =>
   have HAT:=hid hat
   clear hat hx1 hx2
   simp only [Option.isSome]
   generalize QbB c.known height=k at *
   go_wp2
   go_ret
   exact ⟨HB2.out.alloc HB2.out.size _,_,rfl,.inr (.inl ⟨HASK.out,HAT.out,rfl⟩)⟩
  | some k =>
   have HAT:=hid hat
   rw [Zi hat] at hx1
   rw [Zi hat]
   simp only [Option.isSome]
   obtain ⟨w3,hw3⟩:∃ w3,w2.alloc (.cells #[.int .i64 k.height,.int .i64 k.time,.slice p1 k.root.length d1,.slice p2 k.next.length d2] 114)=w3:=⟨_,rfl⟩
   have hb3:=bof hw3
   have HB3:=hgo HB2 hb3
   have HRK3:=hid (QaL hw3)
   have HP3:=rgo HP2 hb3
   have HX1:=hid ((hx1.below hb3).mono hb3.size)
   have HKF:=hid (HCF.out.2.2 k (QeM hat).1)
   have HW3:=hid hw3
   clear hat hx1 hx2 hb3 hw3
   go_wp2_with fail
   rw [HW3.out]
   refine (HAC.out _ HB3.out).mono ?_
   rintro e w4 ⟨rfl,hb4⟩
   have HB4:=hgo HB3 hb4
   have HRK4:=rgo HRK3 hb4
   have HP4:=rgo HP3 hb4
   have HX4:=hid ((HX1.out.below hb4).mono hb4.size)
   clear hb4 a0 a1 a2 a3 m1 m2
   obtain ⟨⟨a0,a1,a2,a3⟩,-⟩:=HRK4.out.four
   obtain ⟨b0,b1,b2,b3,b4⟩:=Row.five HP4.out
   cases hac:QM c now with
   | false =>
    have HACT:=hid hac
    clear hac
    go_wp2
    go_ret
    exact ⟨HB4.out,_,rfl,.inr (.inr ⟨HASK.out,k,HAT.out,.inl ⟨HACT.out,rfl⟩⟩)⟩
   | true =>
    have HACT:=hid hac
    clear hac
    by_cases e1:p.key=key
    ·rw [decide_eq_true e1] at HE1
     have HQ1:=hid e1
     clear e1
     go_wp2_with fail
     refine (HE1.out _ HB4.out).mono ?_
     rintro e w5 ⟨rfl,hdr⟩
     have hb5:Below w4.heap.size w4 w5:=by obtain ⟨q,hq⟩:=hdr;rw [hq];exact QF _ _ _
     clear hdr
     have HB5:=hgo HB4 hb5
     have HRK5:=rgo HRK4 hb5
     have HP5:=rgo HP4 hb5
     have HX5:=hid ((HX4.out.below hb5).mono hb5.size)
     clear hb5 a0 a1 a2 a3 b0 b1 b2 b3 b4
     obtain ⟨⟨a0,a1,a2,a3⟩,-⟩:=HRK5.out.four
     obtain ⟨b0,b1,b2,b3,b4⟩:=Row.five HP5.out
     by_cases e2:p.val=val
     ·rw [decide_eq_true e2] at HE2
      have HQ2:=hid e2
      clear e2
      go_wp2_with fail
      refine (HE2.out _ HB5.out).mono ?_
      rintro e w6 ⟨rfl,hdr⟩
      have hb6:Below w5.heap.size w5 w6:=by obtain ⟨q,hq⟩:=hdr;rw [hq];exact QF _ _ _
      clear hdr
      have HB6:=hgo HB5 hb6
      have HRK6:=rgo HRK5 hb6
      have HP6:=rgo HP5 hb6
      have HX6:=hid ((HX5.out.below hb6).mono hb6.size)
      clear hb6 a0 a1 a2 a3 b0 b1 b2 b3 b4
      obtain ⟨⟨a0,a1,a2,a3⟩,-⟩:=HRK6.out.four
      obtain ⟨b0,b1,b2,b3,b4⟩:=Row.five HP6.out
      go_wp2_with fail
      refine (HSS.out w6 HB6.out k.root _ HX6.out HKF.out.1).mono ?_
      rintro e w9 ⟨hb9,bb,rfl,hbb⟩
      have HB9:=hgo HB6 hb9
      have HBB:=hid hbb
      clear hb9 hbb
      cases bb with
      | true =>
       go_wp2
       go_ret
       exact ⟨HB9.out,_,rfl,.inr (.inr ⟨HASK.out,k,HAT.out,.inr ⟨HACT.out,.inl ⟨⟨HQ1.out,HQ2.out,HBB.out.1 (by simp)⟩,rfl⟩⟩⟩)⟩
      | false =>
       go_wp2
       go_ret
       exact ⟨HB9.out,_,rfl,.inr (.inr ⟨HASK.out,k,HAT.out,.inr ⟨HACT.out,.inr ⟨fun h=>absurd (HBB.out.2 h.2.2) (by simp),rfl⟩⟩⟩)⟩
     ·rw [decide_eq_false e2] at HE2
      have HQ2:=hid e2
      clear e2
      go_wp2_with fail
      refine (HE2.out _ HB5.out).mono ?_
      rintro e w6 ⟨rfl,hdr⟩
      have hb6:Below w5.heap.size w5 w6:=by obtain ⟨q,hq⟩:=hdr;rw [hq];exact QF _ _ _
      clear hdr
      have HB6:=hgo HB5 hb6
      have HRK6:=rgo HRK5 hb6
      have HP6:=rgo HP5 hb6
      have HX6:=hid ((HX5.out.below hb6).mono hb6.size)
      clear hb6 a0 a1 a2 a3 b0 b1 b2 b3 b4
      obtain ⟨⟨a0,a1,a2,a3⟩,-⟩:=HRK6.out.four
      obtain ⟨b0,b1,b2,b3,b4⟩:=Row.five HP6.out
      go_wp2
      go_ret
      exact ⟨HB6.out,_,rfl,.inr (.inr ⟨HASK.out,k,HAT.out,.inr ⟨HACT.out,.inr ⟨fun h=>HQ2.out h.2.1,rfl⟩⟩⟩)⟩
    ·rw [decide_eq_false e1] at HE1
     have HQ1:=hid e1
     clear e1
     go_wp2_with fail
     refine (HE1.out _ HB4.out).mono ?_
     rintro e w5 ⟨rfl,hdr⟩
     have hb5:Below w4.heap.size w4 w5:=by obtain ⟨q,hq⟩:=hdr;rw [hq];exact QF _ _ _
     clear hdr
     have HB5:=hgo HB4 hb5
     have HRK5:=rgo HRK4 hb5
     have HP5:=rgo HP4 hb5
     have HX5:=hid ((HX4.out.below hb5).mono hb5.size)
     clear hb5 a0 a1 a2 a3 b0 b1 b2 b3 b4
     obtain ⟨⟨a0,a1,a2,a3⟩,-⟩:=HRK5.out.four
     obtain ⟨b0,b1,b2,b3,b4⟩:=Row.five HP5.out
     go_wp2
     go_ret
     exact ⟨HB5.out,_,rfl,.inr (.inr ⟨HASK.out,k,HAT.out,.inr ⟨HACT.out,.inr ⟨fun h=>HQ1.out h.1,rfl⟩⟩⟩)⟩
 ·have HASK:=hid hask
  have e1:(Jd c now != 0)=true:=by simpa using hask
  clear hask
  generalize hz:Jd c now=z at *
  have HZ:=hid hz
  clear hz
  go_wp2
  go_ret
  exact ⟨HB1.out,_,rfl,.inl ⟨by rw [HZ.out];exact HASK.out,HZ.out.symm⟩⟩
end Go.Proofs.YtbgdpfeobklnhaaGreatDoor
