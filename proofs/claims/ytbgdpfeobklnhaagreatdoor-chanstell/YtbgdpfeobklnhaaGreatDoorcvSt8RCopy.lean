/-
  The document's Copy.
-/
import Derived.Test.YtbgdpfeobklnhaaGreatDoorcvCoAdd
namespace Go.Proofs.YtbgdpfeobklnhaaGreatDoor
set_option maxRecDepth 1000000
set_option maxHeartbeats 8000000
open Go.RowKit
theorem Z7:QjL 30:=by
 intro s v N w hv hN hfit hfew
 obtain ⟨o1,c1,o2,c2,o3,c3,o4,c4,o5,c5,o6,c6,o7,c7,rfl,hm⟩:=hv.open
 have hl1:s.clients.length≤100:=hfew.1
 have hl2:s.conns.length≤100:=hfew.2.1
 have hl3:s.chans.length≤100:=hfew.2.2.1
 have hl7:s.purses.length≤100:=hfew.2.2.2.2.2.2.1
 have HM:=hid (show ∀ wx,Below w.heap.size w wx→Zl wx N s (.slice o1 s.clients.length c1) (.slice o2 s.conns.length c2) (.slice o3 s.chans.length c3) (.slice o4 s.sent.length c4) (.slice o5 s.got.length c5) (.slice o6 s.acks.length c6) (.slice o7 s.purses.length c7) from fun wx hx=>hm.below (hx.mono hN))
 obtain ⟨rs,hrl,hrs,hrr⟩:=hm.clients
 have HRSX:=hid (show ∀ wx,Below w.heap.size w wx→JF wx N (.slice o1 s.clients.length c1) 4 rs from fun wx hx=>hrs.below (hx.mono hN))
 have HRR:=hid hrr
 have HOK:=hid (show ∀ r∈rs,r.length=4∧∀ x∈r,x.oneCell'=true from fun r hr=>by
  obtain ⟨i,hi⟩:=List.getElem?_of_mem hr
  have hil:=(List.getElem?_eq_some_iff.1 hi).1
  obtain ⟨dv,rfl,hd⟩:=hrr i r (s.clients[i]'(by omega)) hi (List.getElem?_eq_getElem _)
  obtain ⟨od,cd,rfl,-⟩:=hd.shape
  exact ⟨rfl,fun x hx=>by simp at hx;rcases hx with rfl | rfl | rfl | rfl <;> rfl⟩)
 obtain ⟨w0,hw0,hb0,HR0,HR1,hsz0⟩:=Qkz w 28 [.string s.name,.int .i64 s.height,.int .i64 s.time,.slice o1 s.clients.length c1,.slice o2 s.conns.length c2,.slice o3 s.chans.length c3,.slice o4 s.sent.length c4,.slice o5 s.got.length c5,.slice o6 s.acks.length c6,.slice o7 s.purses.length c7] 28 [.string ⟨#[]⟩,.int .i64 0,.int .i64 0,.slice none 0 0,.slice none 0 0,.slice none 0 0,.slice none 0 0,.slice none 0 0,.slice none 0 0,.slice none 0 0]
 have HB0:=hid hb0
 replace hsz0:=Nat.le_of_eq hsz0.symm
 have HIZ:=hid (show (Tryz.prog.info? 28).map (·.size)=some 10 by kernel_rfl)
 have hN0:N≤w0.heap.size:=by omega
 have HW0:=hid hw0
 clear hv hm hfit hfew hb0 hw0 hrs hrr
 go_enter Tryz.func30,Tryz.ntmps30
 go_upto_region 1 with fail
 rw [HW0.out]
 obtain ⟨wa1,hwa1⟩:∃ wa1,w0.alloc (.cells #[] 72)=wa1:=⟨_,rfl⟩
 have hbwa1:=bof hwa1
 have HRo1:=hid (show Qs 72 4 wa1 w0.heap.size (.slice (some ⟨w0.heap.size,0,none⟩) 0 0) [] by rw [← hwa1];exact Qs.made _ _ (Nat.le_refl _))
 have HSr1:=hid (JF.below (HRSX.out _ HB0.out) (hbwa1.mono (show N≤w0.heap.size by have:=HB0.out.size;omega)))
 have HBa1:=hgo HB0 hbwa1
 have HRa1:=rgo HR0 hbwa1
 have HZa1:=rgo HR1 hbwa1
 have hsa1:=hbwa1.size
 have cc3:wa1.cell? ⟨w.heap.size,3,none⟩=some (.slice o1 s.clients.length c1):=HRa1.out.cell 3
 have HWa1:=hid hwa1
 clear hbwa1
 go_wp2_with (at_builtin;refine Hid.out ?_)
 clear hwa1
 refine hid ?_
 refine QW QiJ rfl _ _ rfl w0.heap.size _ [] rfl HRo1.out _ (rs) rfl HSr1.out HOK.out (by simp;omega) hsa1 ?_
 intro v1 wb1 hrow1 hbb1 hg1
 simp only [List.nil_append] at hrow1
 obtain ⟨q1,e1,rfl,-⟩:=hrow1.shape
 rw [hrl] at hrow1 ⊢
 have hrwb1:=(show Row wb1 w.heap.size 28 [.string s.name,.int .i64 s.height,.int .i64 s.time,.slice o1 s.clients.length c1,.slice o2 s.conns.length c2,.slice o3 s.chans.length c3,.slice o4 s.sent.length c4,.slice o5 s.got.length c5,.slice o6 s.acks.length c6,.slice o7 s.purses.length c7] from (hbb1.block _ (by have:=HR0.out.lt;omega)).trans HRa1.out)
 have hzwb1:=(show Row wb1 (w.heap.size+1) 28 [.string ⟨#[]⟩,.int .i64 0,.int .i64 0,.slice none 0 0,.slice none 0 0,.slice none 0 0,.slice none 0 0,.slice none 0 0,.slice none 0 0,.slice none 0 0] from (hbb1.block _ (by have:=HR1.out.lt;omega)).trans HZa1.out)
 have dd3:wb1.cell? ⟨w.heap.size,3,none⟩=some (.slice o1 s.clients.length c1):=hrwb1.cell 3
 have zz3:wb1.frozen? ⟨w.heap.size,3,none⟩=false:=hrwb1.frozen 3
 obtain ⟨wc1,hwc1⟩:∃ wc1,wb1.setCell ⟨w.heap.size,3,none⟩ (.slice q1 s.clients.length e1)=wc1:=⟨_,rfl⟩
 have howc1:∀ b,b≠w.heap.size→wc1.heap[b]?=wb1.heap[b]?:=fun b hb=>by rw [← hwc1];exact Below.heap_setCell _ _ _ _ hb
 have hswc1:wc1.heap.size=wb1.heap.size:=by rw [← hwc1];simp [World.setCell]
 have h0wc1:Below 0 wb1 wc1:=by rw [← hwc1];exact (Below.refl 0 wb1).setCell (Nat.zero_le _) _
 have HRc1:=hid (show Row wc1 w.heap.size 28 [.string s.name,.int .i64 s.height,.int .i64 s.time,.slice q1 s.clients.length e1,.slice o2 s.conns.length c2,.slice o3 s.chans.length c3,.slice o4 s.sent.length c4,.slice o5 s.got.length c5,.slice o6 s.acks.length c6,.slice o7 s.purses.length c7] by rw [← hwc1];exact hrwb1.set 3 _)
 have HZc1:=hid (show Row wc1 (w.heap.size+1) 28 [.string ⟨#[]⟩,.int .i64 0,.int .i64 0,.slice none 0 0,.slice none 0 0,.slice none 0 0,.slice none 0 0,.slice none 0 0,.slice none 0 0,.slice none 0 0] by rw [← hwc1];exact hzwb1.other _ (by simp))
 have HBc1:=hid (show Below w.heap.size w wc1 by rw [← hwc1];exact (HBa1.out.trans (hbb1.mono (by omega))).setCell (Nat.le_refl _) _)
 have hsb1:=hbb1.size
 have hsc1:wb1.heap.size≤wc1.heap.size:=by omega
 have hbx1:Below w0.heap.size wa1 wb1:=hbb1
 have HX0:=hid ((Jt.on (Jt.new (N:=N) ClR.stays hrl hrow1 HRR.out hN0 hN (HBa1.out.trans (hbb1.mono (by omega)))) h0wc1 (fun b _ hb=>howc1 b (by omega))).held)
 have HWc1:=hid hwc1
 clear hrow1 hbb1 hg1 hrwb1 hzwb1 hwc1 howc1 hswc1 h0wc1 hbx1
 go_upto_region 2 with fail
 rw [HWc1.out]
 clear cc3 dd3 zz3
 obtain ⟨wa2,hwa2⟩:∃ wa2,wc1.alloc (.cells #[] 60)=wa2:=⟨_,rfl⟩
 have hbwa2:=bof hwa2
 have HRo2:=hid (show Qs 60 4 wa2 wc1.heap.size (.slice (some ⟨wc1.heap.size,0,none⟩) 0 0) [] by rw [← hwa2];exact Qs.made _ _ (Nat.le_refl _))
 have HSr2:=hid (JF.below (YO (HM.out _ HBc1.out).conns) (hbwa2.mono (show N≤wc1.heap.size by have:=HBc1.out.size;omega)))
 have HBa2:=hgo HBc1 hbwa2
 have HRa2:=rgo HRc1 hbwa2
 have HZa2:=rgo HZc1 hbwa2
 have hsa2:=hbwa2.size
 have HX0a:=hid (HX0.out.below hbwa2)
 have cc4:wa2.cell? ⟨w.heap.size,4,none⟩=some (.slice o2 s.conns.length c2):=HRa2.out.cell 4
 have HWa2:=hid hwa2
 clear hbwa2
 go_wp2_with (at_builtin;refine Hid.out ?_)
 clear hwa2
 refine hid ?_
 refine QW QiK rfl _ _ rfl wc1.heap.size _ [] rfl HRo2.out _ (s.conns.map Je) rfl HSr2.out QcM (by simp;omega) hsa2 ?_
 intro v2 wb2 hrow2 hbb2 hg2
 simp only [List.nil_append] at hrow2
 obtain ⟨q2,e2,rfl,-⟩:=hrow2.shape
 rw [List.length_map] at hrow2 ⊢
 have hrwb2:=(show Row wb2 w.heap.size 28 [.string s.name,.int .i64 s.height,.int .i64 s.time,.slice q1 s.clients.length e1,.slice o2 s.conns.length c2,.slice o3 s.chans.length c3,.slice o4 s.sent.length c4,.slice o5 s.got.length c5,.slice o6 s.acks.length c6,.slice o7 s.purses.length c7] from (hbb2.block _ (by have:=HRc1.out.lt;omega)).trans HRa2.out)
 have hzwb2:=(show Row wb2 (w.heap.size+1) 28 [.string ⟨#[]⟩,.int .i64 0,.int .i64 0,.slice none 0 0,.slice none 0 0,.slice none 0 0,.slice none 0 0,.slice none 0 0,.slice none 0 0,.slice none 0 0] from (hbb2.block _ (by have:=HZc1.out.lt;omega)).trans HZa2.out)
 have dd4:wb2.cell? ⟨w.heap.size,4,none⟩=some (.slice o2 s.conns.length c2):=hrwb2.cell 4
 have zz4:wb2.frozen? ⟨w.heap.size,4,none⟩=false:=hrwb2.frozen 4
 obtain ⟨wc2,hwc2⟩:∃ wc2,wb2.setCell ⟨w.heap.size,4,none⟩ (.slice q2 s.conns.length e2)=wc2:=⟨_,rfl⟩
 have howc2:∀ b,b≠w.heap.size→wc2.heap[b]?=wb2.heap[b]?:=fun b hb=>by rw [← hwc2];exact Below.heap_setCell _ _ _ _ hb
 have hswc2:wc2.heap.size=wb2.heap.size:=by rw [← hwc2];simp [World.setCell]
 have h0wc2:Below 0 wb2 wc2:=by rw [← hwc2];exact (Below.refl 0 wb2).setCell (Nat.zero_le _) _
 have HRc2:=hid (show Row wc2 w.heap.size 28 [.string s.name,.int .i64 s.height,.int .i64 s.time,.slice q1 s.clients.length e1,.slice q2 s.conns.length e2,.slice o3 s.chans.length c3,.slice o4 s.sent.length c4,.slice o5 s.got.length c5,.slice o6 s.acks.length c6,.slice o7 s.purses.length c7] by rw [← hwc2];exact hrwb2.set 4 _)
 have HZc2:=hid (show Row wc2 (w.heap.size+1) 28 [.string ⟨#[]⟩,.int .i64 0,.int .i64 0,.slice none 0 0,.slice none 0 0,.slice none 0 0,.slice none 0 0,.slice none 0 0,.slice none 0 0,.slice none 0 0] by rw [← hwc2];exact hzwb2.other _ (by simp))
 have HBc2:=hid (show Below w.heap.size w wc2 by rw [← hwc2];exact (HBa2.out.trans (hbb2.mono (by omega))).setCell (Nat.le_refl _) _)
 have hsb2:=hbb2.size
 have hsc2:wb2.heap.size≤wc2.heap.size:=by omega
 have hbx2:Below wc1.heap.size wa2 wb2:=hbb2
 have HX0c:=hid ((HX0a.out.on (hbb2.mono (Nat.zero_le _)) (fun b hF=>hbb2.block b (by have:=HX0.out.1 b hF;omega))).on h0wc2 (fun b hF=>howc2 b (by have:=HR0.out.lt;omega)))
 have HX2:=hid (show QV 60 Je 4 wc2 wc1.heap.size (.slice q2 s.conns.length e2) s.conns from QV.keep (show QV 60 Je 4 wb2 wc1.heap.size (.slice q2 s.conns.length e2) s.conns from hrow2) (fun b e=>howc2 b (by have:=(Qs.own hrow2 b e).1;have:=hsz0;omega)))
 have HWc2:=hid hwc2
 clear hrow2 hbb2 hg2 hrwb2 hzwb2 hwc2 howc2 hswc2 h0wc2 hbx2 HX0a HX0
 go_upto_region 3 with fail
 rw [HWc2.out]
 clear cc4 dd4 zz4
 obtain ⟨wa3,hwa3⟩:∃ wa3,wc2.alloc (.cells #[] 54)=wa3:=⟨_,rfl⟩
 have hbwa3:=bof hwa3
 have HRo3:=hid (show Qs 54 7 wa3 wc2.heap.size (.slice (some ⟨wc2.heap.size,0,none⟩) 0 0) [] by rw [← hwa3];exact Qs.made _ _ (Nat.le_refl _))
 have HSr3:=hid (JF.below (YO (HM.out _ HBc2.out).chans) (hbwa3.mono (show N≤wc2.heap.size by have:=HBc2.out.size;omega)))
 have HBa3:=hgo HBc2 hbwa3
 have HRa3:=rgo HRc2 hbwa3
 have HZa3:=rgo HZc2 hbwa3
 have hsa3:=hbwa3.size
 have HX0ca:=hid (HX0c.out.below hbwa3)
 have HX2a:=hid (HX2.out.below hbwa3)
 have cc5:wa3.cell? ⟨w.heap.size,5,none⟩=some (.slice o3 s.chans.length c3):=HRa3.out.cell 5
 have HWa3:=hid hwa3
 clear hbwa3
 go_wp2_with (at_builtin;refine Hid.out ?_)
 clear hwa3
 refine hid ?_
 refine QW Qc7 rfl _ _ rfl wc2.heap.size _ [] rfl HRo3.out _ (s.chans.map Qh) rfl HSr3.out YJ (by simp;omega) hsa3 ?_
 intro v3 wb3 hrow3 hbb3 hg3
 simp only [List.nil_append] at hrow3
 obtain ⟨q3,e3,rfl,-⟩:=hrow3.shape
 rw [List.length_map] at hrow3 ⊢
 have hrwb3:=(show Row wb3 w.heap.size 28 [.string s.name,.int .i64 s.height,.int .i64 s.time,.slice q1 s.clients.length e1,.slice q2 s.conns.length e2,.slice o3 s.chans.length c3,.slice o4 s.sent.length c4,.slice o5 s.got.length c5,.slice o6 s.acks.length c6,.slice o7 s.purses.length c7] from (hbb3.block _ (by have:=HRc2.out.lt;omega)).trans HRa3.out)
 have hzwb3:=(show Row wb3 (w.heap.size+1) 28 [.string ⟨#[]⟩,.int .i64 0,.int .i64 0,.slice none 0 0,.slice none 0 0,.slice none 0 0,.slice none 0 0,.slice none 0 0,.slice none 0 0,.slice none 0 0] from (hbb3.block _ (by have:=HZc2.out.lt;omega)).trans HZa3.out)
 have dd5:wb3.cell? ⟨w.heap.size,5,none⟩=some (.slice o3 s.chans.length c3):=hrwb3.cell 5
 have zz5:wb3.frozen? ⟨w.heap.size,5,none⟩=false:=hrwb3.frozen 5
 obtain ⟨wc3,hwc3⟩:∃ wc3,wb3.setCell ⟨w.heap.size,5,none⟩ (.slice q3 s.chans.length e3)=wc3:=⟨_,rfl⟩
 have howc3:∀ b,b≠w.heap.size→wc3.heap[b]?=wb3.heap[b]?:=fun b hb=>by rw [← hwc3];exact Below.heap_setCell _ _ _ _ hb
 have hswc3:wc3.heap.size=wb3.heap.size:=by rw [← hwc3];simp [World.setCell]
 have h0wc3:Below 0 wb3 wc3:=by rw [← hwc3];exact (Below.refl 0 wb3).setCell (Nat.zero_le _) _
 have HRc3:=hid (show Row wc3 w.heap.size 28 [.string s.name,.int .i64 s.height,.int .i64 s.time,.slice q1 s.clients.length e1,.slice q2 s.conns.length e2,.slice q3 s.chans.length e3,.slice o4 s.sent.length c4,.slice o5 s.got.length c5,.slice o6 s.acks.length c6,.slice o7 s.purses.length c7] by rw [← hwc3];exact hrwb3.set 5 _)
 have HZc3:=hid (show Row wc3 (w.heap.size+1) 28 [.string ⟨#[]⟩,.int .i64 0,.int .i64 0,.slice none 0 0,.slice none 0 0,.slice none 0 0,.slice none 0 0,.slice none 0 0,.slice none 0 0,.slice none 0 0] by rw [← hwc3];exact hzwb3.other _ (by simp))
 have HBc3:=hid (show Below w.heap.size w wc3 by rw [← hwc3];exact (HBa3.out.trans (hbb3.mono (by omega))).setCell (Nat.le_refl _) _)
 have hsb3:=hbb3.size
 have hsc3:wb3.heap.size≤wc3.heap.size:=by omega
 have hbx3:Below wc2.heap.size wa3 wb3:=hbb3
 have HX0cc:=hid ((HX0ca.out.on (hbb3.mono (Nat.zero_le _)) (fun b hF=>hbb3.block b (by have:=HX0c.out.1 b hF;omega))).on h0wc3 (fun b hF=>howc3 b (by have:=HR0.out.lt;omega)))
 have HX2c:=hid (show QV 60 Je 4 wc3 wc1.heap.size (.slice q2 s.conns.length e2) s.conns from QV.keep (QV.keep HX2a.out (fun b e=>hbb3.block b (by have:=(HX2.out.own b e).2;omega))) (fun b e=>howc3 b (by have:=(HX2.out.own b e).1;have:=hsz0;omega)))
 have HX3:=hid (show QV 54 Qh 7 wc3 wc2.heap.size (.slice q3 s.chans.length e3) s.chans from QV.keep (show QV 54 Qh 7 wb3 wc2.heap.size (.slice q3 s.chans.length e3) s.chans from hrow3) (fun b e=>howc3 b (by have:=(Qs.own hrow3 b e).1;have:=hsz0;omega)))
 have HWc3:=hid hwc3
 clear hrow3 hbb3 hg3 hrwb3 hzwb3 hwc3 howc3 hswc3 h0wc3 hbx3 HX0ca HX0c HX2a HX2
 go_upto_region 4 with fail
 rw [HWc3.out]
 clear cc5 dd5 zz5
 obtain ⟨wa4,hwa4⟩:∃ wa4,wc3.alloc (.cells #[] 75)=wa4:=⟨_,rfl⟩
 have hbwa4:=bof hwa4
 have HRo4:=hid (show Qs 75 3 wa4 wc3.heap.size (.slice (some ⟨wc3.heap.size,0,none⟩) 0 0) [] by rw [← hwa4];exact Qs.made _ _ (Nat.le_refl _))
 have HSr4:=hid (JF.below (YO (HM.out _ HBc3.out).purses) (hbwa4.mono (show N≤wc3.heap.size by have:=HBc3.out.size;omega)))
 have HBa4:=hgo HBc3 hbwa4
 have HRa4:=rgo HRc3 hbwa4
 have HZa4:=rgo HZc3 hbwa4
 have hsa4:=hbwa4.size
 have HX0cca:=hid (HX0cc.out.below hbwa4)
 have HX2ca:=hid (HX2c.out.below hbwa4)
 have HX3a:=hid (HX3.out.below hbwa4)
 have cc9:wa4.cell? ⟨w.heap.size,9,none⟩=some (.slice o7 s.purses.length c7):=HRa4.out.cell 9
 have HWa4:=hid hwa4
 clear hbwa4
 go_wp2_with (at_builtin;refine Hid.out ?_)
 clear hwa4
 refine hid ?_
 refine QW QiL rfl _ _ rfl wc3.heap.size _ [] rfl HRo4.out _ (s.purses.map Jy) rfl HSr4.out Qc6 (by simp;omega) hsa4 ?_
 intro v4 wb4 hrow4 hbb4 hg4
 simp only [List.nil_append] at hrow4
 obtain ⟨q7,e7,rfl,-⟩:=hrow4.shape
 rw [List.length_map] at hrow4 ⊢
 have hrwb4:=(show Row wb4 w.heap.size 28 [.string s.name,.int .i64 s.height,.int .i64 s.time,.slice q1 s.clients.length e1,.slice q2 s.conns.length e2,.slice q3 s.chans.length e3,.slice o4 s.sent.length c4,.slice o5 s.got.length c5,.slice o6 s.acks.length c6,.slice o7 s.purses.length c7] from (hbb4.block _ (by have:=HRc3.out.lt;omega)).trans HRa4.out)
 have hzwb4:=(show Row wb4 (w.heap.size+1) 28 [.string ⟨#[]⟩,.int .i64 0,.int .i64 0,.slice none 0 0,.slice none 0 0,.slice none 0 0,.slice none 0 0,.slice none 0 0,.slice none 0 0,.slice none 0 0] from (hbb4.block _ (by have:=HZc3.out.lt;omega)).trans HZa4.out)
 have dd9:wb4.cell? ⟨w.heap.size,9,none⟩=some (.slice o7 s.purses.length c7):=hrwb4.cell 9
 have zz9:wb4.frozen? ⟨w.heap.size,9,none⟩=false:=hrwb4.frozen 9
 obtain ⟨wc4,hwc4⟩:∃ wc4,wb4.setCell ⟨w.heap.size,9,none⟩ (.slice q7 s.purses.length e7)=wc4:=⟨_,rfl⟩
 have howc4:∀ b,b≠w.heap.size→wc4.heap[b]?=wb4.heap[b]?:=fun b hb=>by rw [← hwc4];exact Below.heap_setCell _ _ _ _ hb
 have hswc4:wc4.heap.size=wb4.heap.size:=by rw [← hwc4];simp [World.setCell]
 have h0wc4:Below 0 wb4 wc4:=by rw [← hwc4];exact (Below.refl 0 wb4).setCell (Nat.zero_le _) _
 have HRc4:=hid (show Row wc4 w.heap.size 28 [.string s.name,.int .i64 s.height,.int .i64 s.time,.slice q1 s.clients.length e1,.slice q2 s.conns.length e2,.slice q3 s.chans.length e3,.slice o4 s.sent.length c4,.slice o5 s.got.length c5,.slice o6 s.acks.length c6,.slice q7 s.purses.length e7] by rw [← hwc4];exact hrwb4.set 9 _)
 have HZc4:=hid (show Row wc4 (w.heap.size+1) 28 [.string ⟨#[]⟩,.int .i64 0,.int .i64 0,.slice none 0 0,.slice none 0 0,.slice none 0 0,.slice none 0 0,.slice none 0 0,.slice none 0 0,.slice none 0 0] by rw [← hwc4];exact hzwb4.other _ (by simp))
 have HBc4:=hid (show Below w.heap.size w wc4 by rw [← hwc4];exact (HBa4.out.trans (hbb4.mono (by omega))).setCell (Nat.le_refl _) _)
 have hsb4:=hbb4.size
 have hsc4:wb4.heap.size≤wc4.heap.size:=by omega
 have hbx4:Below wc3.heap.size wa4 wb4:=hbb4
 have HX0ccc:=hid ((HX0cca.out.on (hbb4.mono (Nat.zero_le _)) (fun b hF=>hbb4.block b (by have:=HX0cc.out.1 b hF;omega))).on h0wc4 (fun b hF=>howc4 b (by have:=HR0.out.lt;omega)))
 have HX2cc:=hid (show QV 60 Je 4 wc4 wc1.heap.size (.slice q2 s.conns.length e2) s.conns from QV.keep (QV.keep HX2ca.out (fun b e=>hbb4.block b (by have:=(HX2c.out.own b e).2;omega))) (fun b e=>howc4 b (by have:=(HX2c.out.own b e).1;have:=hsz0;omega)))
 have HX3c:=hid (show QV 54 Qh 7 wc4 wc2.heap.size (.slice q3 s.chans.length e3) s.chans from QV.keep (QV.keep HX3a.out (fun b e=>hbb4.block b (by have:=(HX3.out.own b e).2;omega))) (fun b e=>howc4 b (by have:=(HX3.out.own b e).1;have:=hsz0;omega)))
 have HX4:=hid (show QV 75 Jy 3 wc4 wc3.heap.size (.slice q7 s.purses.length e7) s.purses from QV.keep (show QV 75 Jy 3 wb4 wc3.heap.size (.slice q7 s.purses.length e7) s.purses from hrow4) (fun b e=>howc4 b (by have:=(Qs.own hrow4 b e).1;have:=hsz0;omega)))
 have HWc4:=hid hwc4
 clear hrow4 hbb4 hg4 hrwb4 hzwb4 hwc4 howc4 hswc4 h0wc4 hbx4 HX0cca HX0cc HX2ca HX2c HX3a HX3
 go_upto_region 5 with fail
 rw [HWc4.out]
 clear cc9 dd9 zz9
 have HOWN:=hid (show Q7 N w0.heap.size wc4 s (.slice q1 s.clients.length e1) (.slice q2 s.conns.length e2) (.slice q3 s.chans.length e3) (.slice o4 s.sent.length c4) (.slice o5 s.got.length c5) (.slice o6 s.acks.length c6) (.slice q7 s.purses.length e7) from
  Q7.make (m1:=wc1.heap.size) (m2:=wc4.heap.size) hN0 ⟨by omega,by omega⟩ HX0ccc.out HX2cc.out (Qs.mono HX3c.out (by omega)) (Qs.mono HX4.out (by omega))
   (fun b e=>(HX2cc.out.own b e).2) (fun b e=>(HX3c.out.own b e).2) (fun b e=>(HX4.out.own b e).2)
   (((HM.out _ HBc4.out).sent.held MkR.stays (by have:=HBc4.out.size;omega)).wide (fun b hF=>⟨.inl hF,Nat.lt_of_lt_of_le hF (by have:=HBc4.out.size;omega)⟩) (fun b hF=>hF.2))
   (((HM.out _ HBc4.out).got.held MkR.stays (by have:=HBc4.out.size;omega)).wide (fun b hF=>⟨.inl hF,Nat.lt_of_lt_of_le hF (by have:=HBc4.out.size;omega)⟩) (fun b hF=>hF.2))
   (((HM.out _ HBc4.out).acks.held MkR.stays (by have:=HBc4.out.size;omega)).wide (fun b hF=>⟨.inl hF,Nat.lt_of_lt_of_le hF (by have:=HBc4.out.size;omega)⟩) (fun b hF=>hF.2)))
 obtain ⟨w8,hw8,HRS8,HHZ8,HON8,HSW8⟩:=Qkh HZc4.out [.string s.name,.int .i64 s.height,.int .i64 s.time,.slice q1 s.clients.length e1,.slice q2 s.conns.length e2,.slice q3 s.chans.length e3,.slice o4 s.sent.length c4,.slice o5 s.got.length c5,.slice o6 s.acks.length c6,.slice q7 s.purses.length e7] (by simp [Value.oneCell'])
 have HB8:=hid (show Below w.heap.size w w8 by rw [← hw8];exact Qap HBc4.out (by omega) _)
 have HO8:=hid (HOWN.out.on (w':=w8) (by rw [← hw8];exact Qap (Below.refl 0 wc4) (Nat.zero_le _) _) (fun b _ hlt=>by rw [← hw8];exact setRow_other _ _ _ _ (by omega)))
 obtain ⟨k0,k1,k2,k3,k4,k5,k6,k7,k8,k9⟩:=HRc4.out.c10
 clear hw8
 go_wp2_with (refine QgB rfl (.tmp 2) (.tmp 23) rfl rfl rfl HHZ8.out HIZ.out rfl HON8.out HSW8.out ?_)
 obtain ⟨y0,y1,y2,y3,y4,y5,y6,y7,y8,y9⟩:=HRS8.out.c10
 exact bodyPost_ret (v:=.agg #[.string s.name,.int .i64 s.height,.int .i64 s.time,.slice q1 s.clients.length e1,.slice q2 s.conns.length e2,.slice q3 s.chans.length e3,.slice o4 s.sent.length c4,.slice o5 s.got.length c5,.slice o6 s.acks.length c6,.slice q7 s.purses.length e7]) (by simp [results,Tryz.results30,go_sem,y0,y1,y2,y3,y4,y5,y6,y7,y8,y9]) rfl ⟨HB8.out,q1,e1,q2,e2,q3,e3,o4,c4,o5,c5,o6,c6,q7,e7,rfl,HO8.out.lower (by omega)⟩
end Go.Proofs.YtbgdpfeobklnhaaGreatDoor
