/-
  The document's Connect: St9RT2.
-/
import Derived.Test.YtooemgkjkngpcaaGreatDoorteCoMath
import Derived.Test.YtooemgkjkngpcaaGreatDoorteSt8RCopy
import Derived.Test.YtooemgkjkngpcaaGreatDoorteCoDoubts
import Derived.Test.YtooemgkjkngpcaaGreatDoorteCoAdd
import Derived.Test.YtooemgkjkngpcaaGreatDoorteSt9RNo
import Derived.Test.YtooemgkjkngpcaaGreatDoorteSt8RWrong
import Derived.Test.YtooemgkjkngpcaaGreatDoorteCoOpened
namespace Go.Proofs.YtooemgkjkngpcaaGreatDoor
set_option maxRecDepth 1000000
set_option maxHeartbeats 8000000
open Go.RowKit
theorem Row.z4 {w:World} {g:Nat} {t:TypeId} {cs:List Value} (h:Row w g t cs):w.frozen? ⟨g,0,none⟩=false∧w.frozen? ⟨g,1,none⟩=false∧w.frozen? ⟨g,2,none⟩=false∧w.frozen? ⟨g,3,none⟩=false :=
  ⟨h.frozen 0,h.frozen 1,h.frozen 2,h.frozen 3⟩
theorem YT {w2:World} {g:Nat} {t:TypeId} {a b c d:Value} (h:Row w2 g t [a,b,c,d]) (p q r u:Value):∃ wx,(((w2.setCell ⟨g,0,none⟩ p).setCell ⟨g,1,none⟩ q).setCell ⟨g,2,none⟩ r).setCell ⟨g,3,none⟩ u=wx∧(∀ b,b≠g→wx.heap[b]?=w2.heap[b]?)∧Hid (Row wx g t [p,q,r,u])∧w2.heap.size≤wx.heap.size∧∀ B w0,Below B w0 w2→B≤g→Below B w0 wx :=
  ⟨_,rfl,fun _ hb=>(Below.heap_setCell _ _ _ _ hb).trans ((Below.heap_setCell _ _ _ _ hb).trans ((Below.heap_setCell _ _ _ _ hb).trans (Below.heap_setCell _ _ _ _ hb))),hid ((((h.set 0 _).set 1 _).set 2 _).set 3 _),by simp [World.setCell],fun _ _ hb hg=>(((hb.setCell hg _).setCell hg _).setCell hg _).setCell hg _⟩
theorem StV.ten {w:World} {N:Nat} {v:Value} {t:St} (h:StV w N v t):∃ a0 a1 a2 a3 a4 a5 a6 a7 a8 a9,v=.agg #[a0,a1,a2,a3,a4,a5,a6,a7,a8,a9]∧(#[a0,a1,a2,a3,a4,a5,a6,a7,a8,a9]:Array Value).all (·.oneCell')=true:=by
  obtain ⟨o1,c1,o2,c2,o3,c3,o4,c4,o5,c5,o6,c6,o7,c7,rfl,-⟩:=h.open
  exact ⟨_,_,_,_,_,_,_,_,_,_,rfl,by simp [Value.oneCell']⟩
def zA:Array Value:=#[.string ⟨#[]⟩,.int .i64 0,.int .i64 0,.slice none 0 0,.slice none 0 0,.slice none 0 0,.slice none 0 0,.slice none 0 0,.slice none 0 0,.slice none 0 0]
theorem ZT:zA.all (·.oneCell')=true:=by simp [zA,Value.oneCell']
theorem Q8 {w w0 wn:World} (hb:Below w.heap.size w w0) (hd:Below w0.heap.size w0 wn) (hz:Row w0 (w.heap.size+1+1) 28 [.string ⟨#[]⟩,.int .i64 0,.int .i64 0,.slice none 0 0,.slice none 0 0,.slice none 0 0,.slice none 0 0,.slice none 0 0,.slice none 0 0,.slice none 0 0]):∃ wz,Hid (wn.heap[w.heap.size+1+1]?=some (.cells zA 28 (0,0)))∧Hid (wn.setRow (w.heap.size+1+1) zA=wz)∧Hid (Below w.heap.size w wz)∧wz.cell? ⟨w.heap.size+2,0,none⟩=some (.string ⟨#[]⟩)∧wz.cell? ⟨w.heap.size+2,1,none⟩=some (.int .i64 0)∧wz.cell? ⟨w.heap.size+2,2,none⟩=some (.int .i64 0)∧wz.cell? ⟨w.heap.size+2,3,none⟩=some (.slice none 0 0)∧wz.cell? ⟨w.heap.size+2,4,none⟩=some (.slice none 0 0)∧wz.cell? ⟨w.heap.size+2,5,none⟩=some (.slice none 0 0)∧wz.cell? ⟨w.heap.size+2,6,none⟩=some (.slice none 0 0)∧wz.cell? ⟨w.heap.size+2,7,none⟩=some (.slice none 0 0)∧wz.cell? ⟨w.heap.size+2,8,none⟩=some (.slice none 0 0)∧wz.cell? ⟨w.heap.size+2,9,none⟩=some (.slice none 0 0) :=
  have hn:=hz.below hd hz.lt
  ⟨_,hid hn,hid rfl,hid (Qd (hb.trans (hd.mono hb.size)) (by omega) _),(Row.setRow hn _).c10⟩
theorem QK (w:World) (s:St) (h:Sh) (o1 o2 o3 o4 o5 o6 o7:Option Addr) (c1 c2 c3 c4 c5 c6 c7:Nat) (q1:Option Addr) (e1:Nat) (q2:Option Addr) (e2:Nat) (q3:Option Addr) (e3:Nat) (r1:Option Addr) (s1:Nat) (r2:Option Addr) (s2:Nat) (r3:Option Addr) (s3:Nat) (r4:Option Addr) (s4:Nat) (r5:Option Addr) (s5:Nat) (r6:Option Addr) (s6:Nat):∃ w0,((w.alloc (.cells #[.string s.name,.int .i64 s.height,.int .i64 s.time,.slice o1 s.clients.length c1,.slice o2 s.conns.length c2,.slice o3 s.chans.length c3,.slice o4 s.sent.length c4,.slice o5 s.got.length c5,.slice o6 s.acks.length c6,.slice o7 s.purses.length c7] 28)).alloc (.cells #[.int .i64 h.height,.int .i64 h.prf.index,.int .i64 h.prf.size,.slice q1 h.prf.key.length e1,.slice q2 h.prf.val.length e2,.slice q3 h.prf.path.length e3,.bool h.gap.hasL,.bool h.gap.hasR,.int .i64 h.gap.left.index,.int .i64 h.gap.left.size,.slice r1 h.gap.left.key.length s1,.slice r2 h.gap.left.val.length s2,.slice r3 h.gap.left.path.length s3,.int .i64 h.gap.right.index,.int .i64 h.gap.right.size,.slice r4 h.gap.right.key.length s4,.slice r5 h.gap.right.val.length s5,.slice r6 h.gap.right.path.length s6] 46)).alloc (.cells #[.string ⟨#[]⟩,.int .i64 0,.int .i64 0,.slice none 0 0,.slice none 0 0,.slice none 0 0,.slice none 0 0,.slice none 0 0,.slice none 0 0,.slice none 0 0] 28)=w0∧Below w.heap.size w w0∧Hid (Row w0 w.heap.size 28 [.string s.name,.int .i64 s.height,.int .i64 s.time,.slice o1 s.clients.length c1,.slice o2 s.conns.length c2,.slice o3 s.chans.length c3,.slice o4 s.sent.length c4,.slice o5 s.got.length c5,.slice o6 s.acks.length c6,.slice o7 s.purses.length c7])∧Hid (Row w0 (w.heap.size+1) 46 [.int .i64 h.height,.int .i64 h.prf.index,.int .i64 h.prf.size,.slice q1 h.prf.key.length e1,.slice q2 h.prf.val.length e2,.slice q3 h.prf.path.length e3,.bool h.gap.hasL,.bool h.gap.hasR,.int .i64 h.gap.left.index,.int .i64 h.gap.left.size,.slice r1 h.gap.left.key.length s1,.slice r2 h.gap.left.val.length s2,.slice r3 h.gap.left.path.length s3,.int .i64 h.gap.right.index,.int .i64 h.gap.right.size,.slice r4 h.gap.right.key.length s4,.slice r5 h.gap.right.val.length s5,.slice r6 h.gap.right.path.length s6])∧Hid (Row w0 (w.heap.size+1+1) 28 [.string ⟨#[]⟩,.int .i64 0,.int .i64 0,.slice none 0 0,.slice none 0 0,.slice none 0 0,.slice none 0 0,.slice none 0 0,.slice none 0 0,.slice none 0 0])∧w.heap.size+3≤w0.heap.size ∧
    Hid (∀ W,Below w0.heap.size w0 W→Row W w.heap.size 28 [.string s.name,.int .i64 s.height,.int .i64 s.time,.slice o1 s.clients.length c1,.slice o2 s.conns.length c2,.slice o3 s.chans.length c3,.slice o4 s.sent.length c4,.slice o5 s.got.length c5,.slice o6 s.acks.length c6,.slice o7 s.purses.length c7])∧Hid (∀ W,Below w0.heap.size w0 W→Row W (w.heap.size+1) 46 [.int .i64 h.height,.int .i64 h.prf.index,.int .i64 h.prf.size,.slice q1 h.prf.key.length e1,.slice q2 h.prf.val.length e2,.slice q3 h.prf.path.length e3,.bool h.gap.hasL,.bool h.gap.hasR,.int .i64 h.gap.left.index,.int .i64 h.gap.left.size,.slice r1 h.gap.left.key.length s1,.slice r2 h.gap.left.val.length s2,.slice r3 h.gap.left.path.length s3,.int .i64 h.gap.right.index,.int .i64 h.gap.right.size,.slice r4 h.gap.right.key.length s4,.slice r5 h.gap.right.val.length s5,.slice r6 h.gap.right.path.length s6])∧Hid (∀ W,Below w0.heap.size w0 W→Row W (w.heap.size+1+1) 28 [.string ⟨#[]⟩,.int .i64 0,.int .i64 0,.slice none 0 0,.slice none 0 0,.slice none 0 0,.slice none 0 0,.slice none 0 0,.slice none 0 0,.slice none 0 0])∧Hid (∀ W,Below w0.heap.size w0 W→Below w.heap.size w W)∧Hid (Below w0.heap.size w0 w0)∧Hid ((Tryz.prog.info? 28).map (·.size)=some 10):=by
  obtain ⟨w0,hw0,hb0,HR0,HR1,HR2,hsz0⟩:=Qg9 w 28 [.string s.name,.int .i64 s.height,.int .i64 s.time,.slice o1 s.clients.length c1,.slice o2 s.conns.length c2,.slice o3 s.chans.length c3,.slice o4 s.sent.length c4,.slice o5 s.got.length c5,.slice o6 s.acks.length c6,.slice o7 s.purses.length c7] 46 [.int .i64 h.height,.int .i64 h.prf.index,.int .i64 h.prf.size,.slice q1 h.prf.key.length e1,.slice q2 h.prf.val.length e2,.slice q3 h.prf.path.length e3,.bool h.gap.hasL,.bool h.gap.hasR,.int .i64 h.gap.left.index,.int .i64 h.gap.left.size,.slice r1 h.gap.left.key.length s1,.slice r2 h.gap.left.val.length s2,.slice r3 h.gap.left.path.length s3,.int .i64 h.gap.right.index,.int .i64 h.gap.right.size,.slice r4 h.gap.right.key.length s4,.slice r5 h.gap.right.val.length s5,.slice r6 h.gap.right.path.length s6] 28 [.string ⟨#[]⟩,.int .i64 0,.int .i64 0,.slice none 0 0,.slice none 0 0,.slice none 0 0,.slice none 0 0,.slice none 0 0,.slice none 0 0,.slice none 0 0]
  have HB0:=hid hb0
  replace hsz0:=Nat.le_of_eq hsz0.symm
  exact ⟨w0,hw0,hb0,HR0,HR1,HR2,hsz0,hid (fun _ h=>HR0.out.below h HR0.out.lt),hid (fun _ h=>HR1.out.below h HR1.out.lt),hid (fun _ h=>HR2.out.below h HR2.out.lt),hid (fun _ h=>hb0.trans (h.mono hb0.size)),hid (Below.refl _ _),hid (by kernel_rfl)⟩
theorem Z2 {s:St} {c:Int} (h:QQ s c=0):Qm s=0:=by
  unfold QQ at h
  split at h
  · rename_i h1;exact absurd h h1
  · rename_i h1;simpa using h1
theorem QbZ {s:St} {c:Int} (h:QQ s c=0):QA s c=0:=by
  unfold QQ at h
  split at h
  · rename_i h1;exact absurd h h1
  · exact h
theorem JJ {a b c d:Int} (h1:1≤a∧a≤3) (h2:0≤b∧b≤1000000000000) (h3:0≤c∧c≤1000000000000) (h4 : -1≤d∧d≤1000000000000):Qk ⟨a,b,c,d⟩=0:=by
  unfold Qk
  rw [if_neg (by simp;omega),if_neg]
  simp [Qg]
  omega
theorem QiU (s:St) (v:Value) (N:Nat) (w:World) (c o:Int) (hv:StV w N v s) (hN:N≤w.heap.size) (hfit:s.fits) :
    Calls Tryz.prog 15 #[v,.int .i64 c,.int .i64 o] w fun e w'=>Below w.heap.size w w'∧∃ v',e=.returned (.tuple #[v',.int .i64 (JD s (Ju s c o)),.int .i64 (Ju s c o)])∧Qn N w.heap.size w' v' (Ym s c o):=by
  have HST:=hid (fun wx (hx:Below w.heap.size w wx)=>QbP s v N wx c (hv.below (hx.mono hN)) (Nat.le_trans hN hx.size) hfit)
  have HAD:=hid (show few s→∀ wx,Below w.heap.size w wx→_ from fun hfew wx hx=>QdF s v N wx ⟨1,c,o,-1⟩ (hv.below (hx.mono hN)) (Nat.le_trans hN hx.size) hfit hfew)
  have HDN:=hid (show Ju s c o=if QQ s c≠0 then QQ s c else if Qg 0 o=false then 3 else Yc s from rfl)
  obtain ⟨o1,c1,o2,c2,o3,c3,o4,c4,o5,c5,o6,c6,o7,c7,rfl,hm⟩:=hv.open
  obtain ⟨w0,hw0,hb0,HR0,HR1,hsz0⟩:=QjB w 28 [.string s.name,.int .i64 s.height,.int .i64 s.time,.slice o1 s.clients.length c1,.slice o2 s.conns.length c2,.slice o3 s.chans.length c3,.slice o4 s.sent.length c4,.slice o5 s.got.length c5,.slice o6 s.acks.length c6,.slice o7 s.purses.length c7] 28 [.string ⟨#[]⟩,.int .i64 0,.int .i64 0,.slice none 0 0,.slice none 0 0,.slice none 0 0,.slice none 0 0,.slice none 0 0,.slice none 0 0,.slice none 0 0]
  have HB0:=hid hb0
  have HIZ:=hid (show (Tryz.prog.info? 28).map (·.size)=some 10 by kernel_rfl)
  obtain ⟨k0,k1,k2,k3,k4,k5,k6,k7,k8,k9⟩:=HR0.out.c10
  have HW0:=hid hw0
  clear hv hm hfit hb0 hw0
  go_enter Tryz.func15,Tryz.ntmps15
  go_upto_region 1 with fail
  rw [HW0.out]
  go_wp2_with fail
  refine (HST.out _ HB0.out).mono ?_
  rintro e w1 ⟨rfl,hb1⟩
  have HB1:=hgo HB0 hb1
  have HA1:=rgo HR0 hb1
  have HZ1:=rgo HR1 hb1
  have hsz1:=hb1.size
  clear hb1
  clear k0 k1 k2 k3 k4 k5 k6 k7 k8 k9
  by_cases hs:QQ s c=0
  · have HS:=hid hs
    have HFW:=hid (Qr (Z2 hs))
    rw [hs]
    clear hs
    cases hf:Qg 0 o with
    | false =>
      have HF:=hid hf
      have HI:=hid (show Ju s c o=3 by rw [HDN.out,if_neg (by simp [HS.out]),if_pos hf])
      clear hf
      obtain ⟨wz1,hwz1,HRSz1,HHZz1,HONz1,HSWz1⟩:=QJ HZ1.out [.string ⟨#[]⟩,.int .i64 0,.int .i64 0,.slice none 0 0,.slice none 0 0,.slice none 0 0,.slice none 0 0,.slice none 0 0,.slice none 0 0,.slice none 0 0] (by simp [Value.oneCell'])
      have HBz1:=hid (show Below w.heap.size w wz1 by rw [← hwz1];exact Qd HB1.out (by omega) _)
      clear hwz1
      go_wp2_with (first | (go_at_call 26;refine (QI _ _ _).mono ?_;rintro e w' ⟨rfl,hww⟩;obtain rfl:=hww.symm;rw [HF.out]) | (refine Qf rfl (.tmp 6) (.tmp 20) rfl rfl rfl HHZz1.out HIZ.out rfl HONz1.out HSWz1.out ?_))
      obtain ⟨y0,y1,y2,y3,y4,y5,y6,y7,y8,y9⟩:=HRSz1.out.c10
      refine bodyPost_ret (v:=.tuple #[.agg #[.string ⟨#[]⟩,.int .i64 0,.int .i64 0,.slice none 0 0,.slice none 0 0,.slice none 0 0,.slice none 0 0,.slice none 0 0,.slice none 0 0,.slice none 0 0],.int .i64 0,.int .i64 3]) (by simp [results,Tryz.results15,go_sem,y0,y1,y2,y3,y4,y5,y6,y7,y8,y9]) rfl ⟨HBz1.out,_,by rw [HI.out];first | done | rfl,?_⟩
      rw [show Ym s c o=St.none by unfold Ym Zb;rw [HI.out];rfl]
      exact Qp _ _ _
    | true =>
      have HF:=hid hf
      have HI:=hid (show Ju s c o=Yc s by rw [HDN.out,if_neg (by simp [HS.out]),if_neg (by simp [hf])])
      clear hf
      go_upto_region 6 with (go_at_call 26;refine (QI _ _ _).mono ?_;rintro e w' ⟨rfl,hww⟩;obtain rfl:=hww.symm;rw [HF.out])
      obtain ⟨k0,k1,k2,k3,k4,k5,k6,k7,k8,k9⟩:=HA1.out.c10
      go_wp2_with fail
      refine (HAD.out HFW.out _ HB1.out).mono ?_
      rintro e w2 ⟨hb2,va,rfl,hva⟩
      have HB2:=hgo HB1 hb2
      have HZ2:=rgo HZ1 hb2
      clear k0 k1 k2 k3 k4 k5 k6 k7 k8 k9
      clear hb2
      obtain ⟨t,ht⟩:∃ t,Zb s (Yc s) ⟨1,c,o,-1⟩=t:=⟨_,rfl⟩
      have HTT:=hid (show Ym s c o=t by unfold Ym;rw [HI.out,ht])
      rw [ht] at hva
      clear ht
      obtain ⟨t1,u1,t2,u2,t3,u3,t4,u4,t5,u5,t6,u6,t7,u7,rfl,-⟩:=hva.now.open
      have HVA:=hid hva
      clear hva
      obtain ⟨wf,hwf,HRSf,HHZf,HONf,HSWf⟩:=QJ HZ2.out [.string t.name,.int .i64 t.height,.int .i64 t.time,.slice t1 t.clients.length u1,.slice t2 t.conns.length u2,.slice t3 t.chans.length u3,.slice t4 t.sent.length u4,.slice t5 t.got.length u5,.slice t6 t.acks.length u6,.slice t7 t.purses.length u7] (by simp [Value.oneCell'])
      have HBf:=hid (show Below w.heap.size w wf by rw [← hwf];exact Qd HB2.out (by omega) _)
      have HTF:=hid (show Qn N w.heap.size wf (.agg #[.string t.name,.int .i64 t.height,.int .i64 t.time,.slice t1 t.clients.length u1,.slice t2 t.conns.length u2,.slice t3 t.chans.length u3,.slice t4 t.sent.length u4,.slice t5 t.got.length u5,.slice t6 t.acks.length u6,.slice t7 t.purses.length u7]) t by rw [← hwf];exact (HVA.out.row (by omega) (by omega) _).lower (by omega))
      clear hwf
      go_wp2_with (refine Qf rfl (.tmp 6) (.tmp 26) rfl rfl rfl HHZf.out HIZ.out rfl HONf.out HSWf.out ?_)
      obtain ⟨y0,y1,y2,y3,y4,y5,y6,y7,y8,y9⟩:=HRSf.out.c10
      refine bodyPost_ret (v:=.tuple #[.agg #[.string t.name,.int .i64 t.height,.int .i64 t.time,.slice t1 t.clients.length u1,.slice t2 t.conns.length u2,.slice t3 t.chans.length u3,.slice t4 t.sent.length u4,.slice t5 t.got.length u5,.slice t6 t.acks.length u6,.slice t7 t.purses.length u7],.int .i64 (JD s (Yc s)),.int .i64 (Yc s)]) (by simp [results,Tryz.results15,go_sem,y0,y1,y2,y3,y4,y5,y6,y7,y8,y9]) rfl ⟨HBf.out,_,by rw [HI.out];first | done | rfl,?_⟩
      rw [HTT.out]
      exact HTF.out
  · have e0:(QQ s c != 0)=true:=by simpa using hs
    have HI:=hid (show Ju s c o=QQ s c by rw [HDN.out,if_pos hs])
    have HNO:=hid (show Ym s c o=St.none by unfold Ym Zb;rw [HI.out,if_neg hs])
    have HAI:=hid (show JD s (Ju s c o)=0 by unfold JD;rw [HI.out,if_neg hs])
    clear hs
    generalize hzz:QQ s c=z at *
    have HZZ:=hid hzz
    clear hzz
    obtain ⟨wz2,hwz2,HRSz2,HHZz2,HONz2,HSWz2⟩:=QJ HZ1.out [.string ⟨#[]⟩,.int .i64 0,.int .i64 0,.slice none 0 0,.slice none 0 0,.slice none 0 0,.slice none 0 0,.slice none 0 0,.slice none 0 0,.slice none 0 0] (by simp [Value.oneCell'])
    have HBz2:=hid (show Below w.heap.size w wz2 by rw [← hwz2];exact Qd HB1.out (by omega) _)
    clear hwz2
    go_wp2_with (refine Qf rfl (.tmp 6) (.tmp 15) rfl rfl rfl HHZz2.out HIZ.out rfl HONz2.out HSWz2.out ?_)
    obtain ⟨y0,y1,y2,y3,y4,y5,y6,y7,y8,y9⟩:=HRSz2.out.c10
    refine bodyPost_ret (v:=.tuple #[.agg #[.string ⟨#[]⟩,.int .i64 0,.int .i64 0,.slice none 0 0,.slice none 0 0,.slice none 0 0,.slice none 0 0,.slice none 0 0,.slice none 0 0,.slice none 0 0],.int .i64 0,.int .i64 z]) (by simp [results,Tryz.results15,go_sem,y0,y1,y2,y3,y4,y5,y6,y7,y8,y9]) rfl ⟨HBz2.out,_,by rw [HAI.out,HI.out];first | done | rfl,?_⟩
    rw [HNO.out]
    exact Qp _ _ _
theorem QkC {y0 y1 y2 y3 y4 y5 y6 y7 y9 A0 Ab Am Ax Bc Bn By BJ BU C2 Cc Cg Ch Ci Cj Ck Cl Cm Cn Co Cp Cq Cr Cs Ct Cu Cv Cw Cx Cy Cz CA CB CC CD CE CF CG CH CI CJ CK CL CM CN CO CP CQ CR CS CT CU CV CW CX CY CZ D0 D1 D2 D3 D4 D5 D6 D7 D8 D9 Da Db Dc Dd De Df Dg Dh Di Dj Dk Dl Dm Dn Do Dp Dq Dr Ds A1 A2 A3 A4 A5 A6 A7 A8 A9 Aa Ac Ad Ae Af Ag Ah Ai Aj Ak Al An Ao Ap Aq Ar As At Au Av Aw Ay Az AA AB AC AD AE AF AG AH AI AJ AK AL AM AN AO AP AQ AR AS AT AU AV AW AX AY AZ B0 B1 B2 B3 B4 B5 B6 B7 B8 B9 Ba Bb Bd Be Bf Bg Bh Bi Bj Bk Bl Bm Bo Bp Bq Br Bs Bt Bu Bv Bw Bx Bz BA BB BC BD BE BF BG BH BI BK BL BM BN BO BP BQ BR BS BT BV BW BX BY BZ C0 C1 C3 C4 C5 C6 C7 C8 C9 Ca Cb Cd Ce Cf Dt Du Dv Dw Dx Dy:Value} {gs gr gt:Nat} (t:St) (n c2:Nat) (o2:Option Addr) (t1 t2 t3 t4 t5 t6 t7:Option Addr) (u1 u2 u3 u4 u5 u6 u7:Nat) {w:World} (hne1:gt≠gr) (hne2:gs≠gr) (hrt:Hid (Row w gt 28 [.string t.name,.int .i64 t.height,.int .i64 t.time,.slice t1 t.clients.length u1,.slice t2 t.conns.length u2,.slice t3 t.chans.length u3,.slice t4 t.sent.length u4,.slice t5 t.got.length u5,.slice t6 t.acks.length u6,.slice t7 t.purses.length u7])) (hk4:Hid (w.cell? ⟨gs,4,none⟩=some (.slice o2 n c2))) (hrz:Hid (Row w gr 28 [.string ⟨#[]⟩,.int .i64 0,.int .i64 0,.slice none 0 0,.slice none 0 0,.slice none 0 0,.slice none 0 0,.slice none 0 0,.slice none 0 0,.slice none 0 0])) (Q:Exit→Act→World→Prop)
    (hQ:Hid (∀ (σ:Nat→Value) (w':World),Below 0 w w'→w'.heap.size=w.heap.size→(∀ b,b≠gr→w'.heap[b]?=w.heap[b]?)→Row w' gr 28 [.string t.name,.int .i64 t.height,.int .i64 t.time,.slice t1 t.clients.length u1,.slice t2 t.conns.length u2,.slice t3 t.chans.length u3,.slice t4 t.sent.length u4,.slice t5 t.got.length u5,.slice t6 t.acks.length u6,.slice t7 t.purses.length u7]→σ 5=.int .i64 (n:Int)→σ 6=.int .i64 0→Q .normal ⟨#[y0,y1,y2,y3,y4,y5,y6,y7,.pointer (some ⟨gs,0,none⟩),y9,A0,Ab,Am,Ax,.pointer (some ⟨gr,0,none⟩),σ 5,σ 6,Bc,Bn,By,BJ,BU,C2,Cc,.pointer (some ⟨gt,0,none⟩),Cg,Ch,Ci,Cj,Ck,Cl,Cm,Cn,Co,Cp,Cq,Cr,Cs,Ct,Cu,Cv,Cw,Cx,Cy,Cz,CA,CB,CC,CD,CE,CF,CG,CH,CI,CJ,CK,CL,CM,CN,CO,CP,CQ,CR,CS,CT,CU,CV,CW,CX,CY,CZ,D0,D1,D2,D3,D4,D5,D6,D7,D8,D9,Da,Db,Dc,Dd,De,Df,Dg,Dh,Di,Dj,Dk,Dl,Dm,Dn,Do,Dp,Dq,Dr,Ds,A1,A2,A3,A4,A5,A6,A7,A8,A9,Aa,Ac,Ad,Ae,Af,Ag,Ah,Ai,Aj,Ak,Al,An,Ao,Ap,Aq,Ar,As,At,Au,Av,Aw,Ay,Az,AA,AB,AC,AD,AE,AF,AG,AH,AI,AJ,AK,AL,AM,AN,AO,AP,AQ,AR,AS,AT,AU,AV,AW,AX,AY,AZ,B0,B1,B2,B3,B4,B5,B6,B7,B8,B9,Ba,Bb,Bd,Be,Bf,Bg,Bh,Bi,Bj,Bk,Bl,Bm,Bo,Bp,Bq,Br,Bs,Bt,Bu,Bv,Bw,Bx,Bz,BA,BB,BC,BD,BE,BF,BG,BH,BI,BK,BL,BM,BN,BO,BP,BQ,BR,BS,BT,BV,BW,BX,BY,BZ,C0,C1,σ 0,σ 1,σ 2,σ 3,C3,C4,C5,C6,C7,C8,C9,Ca,Cb,Cd,Ce,Cf],[]⟩ w')) :
    Code.wp Tryz.prog (.region 45 ((Tryz.f16.body.bind (Ja 45)).getD #[]) true) Q ⟨#[y0,y1,y2,y3,y4,y5,y6,y7,.pointer (some ⟨gs,0,none⟩),y9,A0,Ab,Am,Ax,.pointer (some ⟨gr,0,none⟩),Dt,Du,Bc,Bn,By,BJ,BU,C2,Cc,.pointer (some ⟨gt,0,none⟩),Cg,Ch,Ci,Cj,Ck,Cl,Cm,Cn,Co,Cp,Cq,Cr,Cs,Ct,Cu,Cv,Cw,Cx,Cy,Cz,CA,CB,CC,CD,CE,CF,CG,CH,CI,CJ,CK,CL,CM,CN,CO,CP,CQ,CR,CS,CT,CU,CV,CW,CX,CY,CZ,D0,D1,D2,D3,D4,D5,D6,D7,D8,D9,Da,Db,Dc,Dd,De,Df,Dg,Dh,Di,Dj,Dk,Dl,Dm,Dn,Do,Dp,Dq,Dr,Ds,A1,A2,A3,A4,A5,A6,A7,A8,A9,Aa,Ac,Ad,Ae,Af,Ag,Ah,Ai,Aj,Ak,Al,An,Ao,Ap,Aq,Ar,As,At,Au,Av,Aw,Ay,Az,AA,AB,AC,AD,AE,AF,AG,AH,AI,AJ,AK,AL,AM,AN,AO,AP,AQ,AR,AS,AT,AU,AV,AW,AX,AY,AZ,B0,B1,B2,B3,B4,B5,B6,B7,B8,B9,Ba,Bb,Bd,Be,Bf,Bg,Bh,Bi,Bj,Bk,Bl,Bm,Bo,Bp,Bq,Br,Bs,Bt,Bu,Bv,Bw,Bx,Bz,BA,BB,BC,BD,BE,BF,BG,BH,BI,BK,BL,BM,BN,BO,BP,BQ,BR,BS,BT,BV,BW,BX,BY,BZ,C0,C1,Dv,Dw,Dx,Dy,C3,C4,C5,C6,C7,C8,C9,Ca,Cb,Cd,Ce,Cf],[]⟩ w:=by
  have HIZ:=hid (show (Tryz.prog.info? 28).map (·.size)=some 10 by kernel_rfl)
  have HON:=hid (show (#[.string t.name,.int .i64 t.height,.int .i64 t.time,.slice t1 t.clients.length u1,.slice t2 t.conns.length u2,.slice t3 t.chans.length u3,.slice t4 t.sent.length u4,.slice t5 t.got.length u5,.slice t6 t.acks.length u6,.slice t7 t.purses.length u7]:Array Value).all (·.oneCell')=true by simp [Value.oneCell'])
  conv=>arg 2;arg 2;whnf
  conv=>arg 4;dsimp only
  refine Qby (by kernel_rfl) (fun σ=>#[y0,y1,y2,y3,y4,y5,y6,y7,.pointer (some ⟨gs,0,none⟩),y9,A0,Ab,Am,Ax,.pointer (some ⟨gr,0,none⟩),σ 5,σ 6,Bc,Bn,By,BJ,BU,C2,Cc,.pointer (some ⟨gt,0,none⟩),Cg,Ch,Ci,Cj,Ck,Cl,Cm,Cn,Co,Cp,Cq,Cr,Cs,Ct,Cu,Cv,Cw,Cx,Cy,Cz,CA,CB,CC,CD,CE,CF,CG,CH,CI,CJ,CK,CL,CM,CN,CO,CP,CQ,CR,CS,CT,CU,CV,CW,CX,CY,CZ,D0,D1,D2,D3,D4,D5,D6,D7,D8,D9,Da,Db,Dc,Dd,De,Df,Dg,Dh,Di,Dj,Dk,Dl,Dm,Dn,Do,Dp,Dq,Dr,Ds,A1,A2,A3,A4,A5,A6,A7,A8,A9,Aa,Ac,Ad,Ae,Af,Ag,Ah,Ai,Aj,Ak,Al,An,Ao,Ap,Aq,Ar,As,At,Au,Av,Aw,Ay,Az,AA,AB,AC,AD,AE,AF,AG,AH,AI,AJ,AK,AL,AM,AN,AO,AP,AQ,AR,AS,AT,AU,AV,AW,AX,AY,AZ,B0,B1,B2,B3,B4,B5,B6,B7,B8,B9,Ba,Bb,Bd,Be,Bf,Bg,Bh,Bi,Bj,Bk,Bl,Bm,Bo,Bp,Bq,Br,Bs,Bt,Bu,Bv,Bw,Bx,Bz,BA,BB,BC,BD,BE,BF,BG,BH,BI,BK,BL,BM,BN,BO,BP,BQ,BR,BS,BT,BV,BW,BX,BY,BZ,C0,C1,σ 0,σ 1,σ 2,σ 3,C3,C4,C5,C6,C7,C8,C9,Ca,Cb,Cd,Ce,Cf]) (fun i=>([Dv,Dw,Dx,Dy,undef,Dt,Du]:List Value).getD i undef) rfl (fun i X W=>match i with
    | 0=>X=.agg #[.string t.name,.int .i64 t.height,.int .i64 t.time,.slice t1 t.clients.length u1,.slice t2 t.conns.length u2,.slice t3 t.chans.length u3,.slice t4 t.sent.length u4,.slice t5 t.got.length u5,.slice t6 t.acks.length u6,.slice t7 t.purses.length u7]
    | 1=>X=.pointer (some ⟨gs,4,none⟩)
    | 2=>X=.slice o2 n c2
    | 3=>X=.int .i64 (n:Int)
    | 4=>Row W gr 28 [.string t.name,.int .i64 t.height,.int .i64 t.time,.slice t1 t.clients.length u1,.slice t2 t.conns.length u2,.slice t3 t.chans.length u3,.slice t4 t.sent.length u4,.slice t5 t.got.length u5,.slice t6 t.acks.length u6,.slice t7 t.purses.length u7]
    | 5=>X=.int .i64 (n:Int)
    | 6=>X=.int .i64 0
    | _=>True) (fun W W'=>W'=W∨W'=W.setRow gr #[.string t.name,.int .i64 t.height,.int .i64 t.time,.slice t1 t.clients.length u1,.slice t2 t.conns.length u2,.slice t3 t.chans.length u3,.slice t4 t.sent.length u4,.slice t5 t.got.length u5,.slice t6 t.acks.length u6,.slice t7 t.purses.length u7]) (fun W=>(∀ b,b≠gr→W.heap[b]?=w.heap[b]?)∧(Row W gr 28 [.string ⟨#[]⟩,.int .i64 0,.int .i64 0,.slice none 0 0,.slice none 0 0,.slice none 0 0,.slice none 0 0,.slice none 0 0,.slice none 0 0,.slice none 0 0]∨Row W gr 28 [.string t.name,.int .i64 t.height,.int .i64 t.time,.slice t1 t.clients.length u1,.slice t2 t.conns.length u2,.slice t3 t.chans.length u3,.slice t4 t.sent.length u4,.slice t5 t.got.length u5,.slice t6 t.acks.length u6,.slice t7 t.purses.length u7])∧Below 0 w W∧W.heap.size=w.heap.size) ⟨fun _ _=>rfl,.inl hrz.out,(Below.refl _ _).drew,rfl⟩ ?_ (by kernel_rfl) ?_ ?_
  · intro i X W W' HR H
    match i,H with
    | 4, H => rcases HR with rfl | rfl
              · exact H
              · exact Row.setRow H _
    | 0,H=>exact H
    | 1,H=>exact H
    | 2,H=>exact H
    | 3,H=>exact H
    | 5,H=>exact H
    | 6,H=>exact H
    | _+7,_=>exact trivial
  · refine ⟨?_,?_,?_,?_,?_,?_,?_,trivial⟩
    · intro σ W HJ hdep
      simp [Region.binds] at hdep
      have HJ:=hid HJ
      have hrt:Row W gt 28 _:=(HJ.out.1 gt hne1).trans hrt.out
      have k0:=hrt.cell 0
      have k1:=hrt.cell 1
      have k2:=hrt.cell 2
      have k3:=hrt.cell 3
      have k4:=hrt.cell 4
      have k5:=hrt.cell 5
      have k6:=hrt.cell 6
      have k7:=hrt.cell 7
      have k8:=hrt.cell 8
      have k9:=hrt.cell 9
      simp at k0
      simp at k1
      simp at k2
      simp at k3
      simp at k4
      simp at k5
      simp at k6
      simp at k7
      simp at k8
      simp at k9
      clear hrt
      refine Qa rfl rfl ?_
      go_simp
      exact ⟨.agg #[.string t.name,.int .i64 t.height,.int .i64 t.time,.slice t1 t.clients.length u1,.slice t2 t.conns.length u2,.slice t3 t.chans.length u3,.slice t4 t.sent.length u4,.slice t5 t.got.length u5,.slice t6 t.acks.length u6,.slice t7 t.purses.length u7],(by first | rfl | simp [Qh, *]),.inl rfl,HJ.out,rfl⟩
    · intro σ W HJ hdep
      simp [Region.binds] at hdep
      have HJ:=hid HJ
      refine Qa rfl rfl ?_
      go_simp
      exact ⟨.pointer (some ⟨gs,4,none⟩),(by first | rfl | simp [Qh, *]),.inl rfl,HJ.out,rfl⟩
    · intro σ W HJ hdep
      simp [Region.binds] at hdep
      have HJ:=hid HJ
      have kc:=(World.cell?_of_block (a:=⟨gs,4,none⟩) (HJ.out.1 gs hne2)).trans hk4.out
      refine Qa rfl rfl ?_
      go_simp
      exact ⟨.slice o2 n c2,(by first | rfl | simp [Qh, *]),.inl rfl,HJ.out,rfl⟩
    · intro σ W HJ hdep
      simp [Region.binds] at hdep
      have HJ:=hid HJ
      refine Qa rfl rfl ?_
      go_simp
      exact ⟨.int .i64 (n:Int),(by first | rfl | simp [Qh, *]),.inl rfl,HJ.out,rfl⟩
    · intro σ W HJ hdep
      simp [Region.binds] at hdep
      have HJ:=hid HJ
      have e0:σ 0=.agg #[.string t.name,.int .i64 t.height,.int .i64 t.time,.slice t1 t.clients.length u1,.slice t2 t.conns.length u2,.slice t3 t.chans.length u3,.slice t4 t.sent.length u4,.slice t5 t.got.length u5,.slice t6 t.acks.length u6,.slice t7 t.purses.length u7]:=by first | exact hdep | exact hdep.1 | exact hdep.2
      refine Qa rfl rfl ?_
      obtain ⟨old,hold,hlen⟩:∃ old:List Value,Row W gr 28 old∧old.length=10:=by rcases HJ.out.2.1 with h | h <;> exact ⟨_,h,rfl⟩
      refine wp_store_row 28 (.tmp 14) (.tmp 217) rfl gr #[.string t.name,.int .i64 t.height,.int .i64 t.time,.slice t1 t.clients.length u1,.slice t2 t.conns.length u2,.slice t3 t.chans.length u3,.slice t4 t.sent.length u4,.slice t5 t.got.length u5,.slice t6 t.acks.length u6,.slice t7 t.purses.length u7] rfl e0 28 old.toArray hold HIZ.out (by simpa using hlen) HON.out ?_
      exact ⟨undef,(by first | rfl | simp [Qh, *]),.inr rfl,⟨fun b hb=>(setRow_other W gr b _ hb).trans (HJ.out.1 b hb),.inr (Row.setRow hold _),Qd HJ.out.2.2.1 (Nat.zero_le _) _,by rw [← HJ.out.2.2.2];simp⟩,Row.setRow hold _⟩
    · intro σ W HJ hdep
      simp [Region.binds] at hdep
      have HJ:=hid HJ
      refine Qa rfl rfl ?_
      go_simp
      exact ⟨.int .i64 (n:Int),(by first | rfl | simp [Qh, *]),.inl rfl,HJ.out,rfl⟩
    · intro σ W HJ hdep
      simp [Region.binds] at hdep
      have HJ:=hid HJ
      refine Qa rfl rfl ?_
      go_simp
      exact ⟨.int .i64 0,(by first | rfl | simp [Qh, *]),.inl rfl,HJ.out,rfl⟩
  · intro σ w' hj hg
    exact hQ.out σ w' hj.2.2.1 hj.2.2.2 hj.1 (hg 4 (by decide)) (hg 5 (by decide)) (hg 6 (by decide))
def Yh (Z:Nat→Prop) (base:Nat) (w:World) (s:St) (v1 v2 v3 v4 v5 v6 v7:Value):Prop :=
  ∃ F:Nat→Nat→Prop,(∀ i b,F i b→Z b) ∧
    QH (F 1) w (fun w2=>QG ClR 4 w2 w2.heap.size v1 s.clients) ∧
    Q3 58 Qu 4 w base v2 s.conns∧Q3 75 Jr 7 w base v3 s.chans ∧
    QH (F 4) w (fun w2=>QG MkR 3 w2 w2.heap.size v4 s.sent)∧QH (F 5) w (fun w2=>QG MkR 3 w2 w2.heap.size v5 s.got)∧QH (F 6) w (fun w2=>QG MkR 3 w2 w2.heap.size v6 s.acks) ∧
    Q3 86 JO 3 w base v7 s.purses ∧
    (∀ b,v2.ownBlock=some b→F 2 b∧∀ i,i≠2→¬ F i b)∧(∀ b,v3.ownBlock=some b→F 3 b∧∀ i,i≠3→¬ F i b)∧(∀ b,v7.ownBlock=some b→F 7 b∧∀ i,i≠7→¬ F i b)
theorem Jg.toZ {N base:Nat} {w:World} {s:St} {v1 v2 v3 v4 v5 v6 v7:Value} (h:Jg N base w s v1 v2 v3 v4 v5 v6 v7):Yh (fun b=>(b<N∨base≤b)∧b≠w.heap.size) base w s v1 v2 v3 v4 v5 v6 v7:=by
  obtain ⟨F,h0,h1,h2,h3,h4,h5,h6,h7,k2,k3,k7⟩:=h
  have L:∀ (i:Nat) (P:World→Prop),QH (F i) w P→QH (fun b=>F i b∧b<w.heap.size) w P:=fun i P hP=>hP.wide (fun b hF=>⟨hF,hP.1 b hF⟩) (fun _ hF=>hF.2)
  refine ⟨fun i b=>F i b∧b<w.heap.size,fun i b hF=>⟨h0 i b hF.1,by omega⟩,L 1 _ h1,h2,h3,L 4 _ h4,L 5 _ h5,L 6 _ h6,h7,fun b e=>⟨⟨(k2 b e).1,(h2.own b e).2⟩,fun i hi hF=>(k2 b e).2 i hi hF.1⟩,fun b e=>⟨⟨(k3 b e).1,(h3.own b e).2⟩,fun i hi hF=>(k3 b e).2 i hi hF.1⟩,fun b e=>⟨⟨(k7 b e).1,(h7.own b e).2⟩,fun i hi hF=>(k7 b e).2 i hi hF.1⟩⟩
theorem Yh.mem {Z:Nat→Prop} {base:Nat} {w:World} {s:St} {v1 v2 v3 v4 v5 v6 v7:Value} (h:Yh Z base w s v1 v2 v3 v4 v5 v6 v7):JS w w.heap.size s v1 v2 v3 v4 v5 v6 v7:=by
  obtain ⟨F,_,h1,h2,h3,h4,h5,h6,h7,_⟩:=h
  exact ⟨h1.now,h2.held.now,h3.held.now,h4.now,h5.now,h6.now,h7.held.now⟩
theorem Yh.conns {Z:Nat→Prop} {base:Nat} {w:World} {s:St} {v1 v2 v3 v4 v5 v6 v7:Value} (h:Yh Z base w s v1 v2 v3 v4 v5 v6 v7):Q3 58 Qu 4 w base v2 s.conns:=by
  obtain ⟨F,_,_,h2,_⟩:=h
  exact h2
theorem Yh.on {Z:Nat→Prop} {base:Nat} {w w':World} {s:St} {v1 v2 v3 v4 v5 v6 v7:Value} (h:Yh Z base w s v1 v2 v3 v4 v5 v6 v7) (hb:Below 0 w w') (hk:∀ b,b<w.heap.size→Z b→w'.heap[b]?=w.heap[b]?):Yh Z base w' s v1 v2 v3 v4 v5 v6 v7:=by
  obtain ⟨F,h0,h1,h2,h3,h4,h5,h6,h7,k2,k3,k7⟩:=h
  have H:∀ (i:Nat) (P:World→Prop),QH (F i) w P→QH (F i) w' P:=fun i P hP=>hP.on hb (fun b hF=>hk b (hP.1 b hF) (h0 i b hF))
  exact ⟨F,h0,H _ _ h1,h2.keep fun b hb'=>hk b (h2.own b hb').2 (h0 2 b (k2 b hb').1),h3.keep fun b hb'=>hk b (h3.own b hb').2 (h0 3 b (k3 b hb').1),H _ _ h4,H _ _ h5,H _ _ h6,h7.keep fun b hb'=>hk b (h7.own b hb').2 (h0 7 b (k7 b hb').1),k2,k3,k7⟩
theorem Yh.below {Z:Nat→Prop} {base:Nat} {w w':World} {s:St} {v1 v2 v3 v4 v5 v6 v7:Value} (h:Yh Z base w s v1 v2 v3 v4 v5 v6 v7) (hb:Below w.heap.size w w'):Yh Z base w' s v1 v2 v3 v4 v5 v6 v7 :=
  h.on (hb.mono (Nat.zero_le _)) (fun b hlt _=>hb.block b hlt)
theorem Yh.putConns {Z:Nat→Prop} {base:Nat} {w w':World} {s:St} {v1 v2 v3 v4 v5 v6 v7:Value} (h:Yh Z base w s v1 v2 v3 v4 v5 v6 v7) {v2':Value} {l:List Cn} (hg:w.grownBy w' v2.ownBlock) (hl:Q3 58 Qu 4 w' base v2' l) (hn:∀ b,v2'.ownBlock=some b→v2.ownBlock=some b∨w.heap.size≤b) (hZ:∀ b,v2'.ownBlock=some b→Z b) :
    Yh Z base w' { s with conns:=l } v1 v2' v3 v4 v5 v6 v7:=by
  obtain ⟨F,h0,h1,h2,h3,h4,h5,h6,h7,k2,k3,k7⟩:=h
  have hlt:∀ i b,(i=1∨i=4∨i=5∨i=6)→F i b→b<w.heap.size:=fun i b hi hF=>by
    rcases hi with rfl | rfl | rfl | rfl
    · exact h1.1 b hF
    · exact h4.1 b hF
    · exact h5.1 b hF
    · exact h6.1 b hF
  refine ⟨fun i b=>(i=2∧v2'.ownBlock=some b)∨(i=3∧v3.ownBlock=some b)∨(i=7∧v7.ownBlock=some b)∨((i=1∨i=4∨i=5∨i=6)∧F i b),fun i b hF=>?_,?_⟩
  · rcases hF with ⟨rfl,e⟩ | ⟨rfl,e⟩ | ⟨rfl,e⟩ | ⟨_,hF⟩
    · exact hZ b e
    · exact h0 3 b (k3 b e).1
    · exact h0 7 b (k7 b e).1
    · exact h0 i b hF
  · have H:∀ (i:Nat) (P:World→Prop),(i=1∨i=4∨i=5∨i=6)→QH (F i) w P→QH (fun b=>(i=2∧v2'.ownBlock=some b)∨(i=3∧v3.ownBlock=some b)∨(i=7∧v7.ownBlock=some b)∨((i=1∨i=4∨i=5∨i=6)∧F i b)) w' P:=fun i P hi hP=>by
      have hP':=hP.grown hg (fun b e=>(k2 b e).2 i (by omega))
      exact hP'.wide (fun b hF=>.inr (.inr (.inr ⟨hi,hF⟩))) (fun b hF=>by
        rcases hF with ⟨rfl,_⟩ | ⟨rfl,_⟩ | ⟨rfl,_⟩ | ⟨_,hF⟩
        · omega
        · omega
        · omega
        · exact hP'.1 b hF)
    have n3:∀ b,v3.ownBlock=some b→some b≠v2.ownBlock:=fun b e e2=>(k3 b e).2 2 (by omega) (k2 b e2.symm).1
    have n7:∀ b,v7.ownBlock=some b→some b≠v2.ownBlock:=fun b e e2=>(k7 b e).2 2 (by omega) (k2 b e2.symm).1
    have n37:∀ b,v3.ownBlock=some b→v7.ownBlock≠some b:=fun b e e2=>(k3 b e).2 7 (by omega) (k7 b e2).1
    refine ⟨H 1 _ (.inl rfl) h1,hl,h3.keep fun b e=>hg.block b (h3.own b e).2 (n3 b e),H 4 _ (.inr (.inl rfl)) h4,H 5 _ (.inr (.inr (.inl rfl))) h5,H 6 _ (.inr (.inr (.inr rfl))) h6,h7.keep fun b e=>hg.block b (h7.own b e).2 (n7 b e),fun b e=>⟨.inl ⟨rfl,e⟩,fun i hi hF=>?_⟩,fun b e=>⟨.inr (.inl ⟨rfl,e⟩),fun i hi hF=>?_⟩,fun b e=>⟨.inr (.inr (.inl ⟨rfl,e⟩)),fun i hi hF=>?_⟩⟩
    · rcases hF with ⟨rfl,_⟩ | ⟨rfl,e'⟩ | ⟨rfl,e'⟩ | ⟨hi',hF⟩
      · exact hi rfl
      · rcases hn b e with e2 | hge
        · exact n3 b e' e2.symm
        · have:=(h3.own b e').2;omega
      · rcases hn b e with e2 | hge
        · exact n7 b e' e2.symm
        · have:=(h7.own b e').2;omega
      · rcases hn b e with e2 | hge
        · exact (k2 b e2).2 i (by omega) hF
        · have:=hlt i b hi' hF;omega
    · rcases hF with ⟨rfl,e'⟩ | ⟨rfl,e'⟩ | ⟨rfl,e'⟩ | ⟨hi',hF⟩
      · rcases hn b e' with e2 | hge
        · exact n3 b e e2.symm
        · have:=(h3.own b e).2;omega
      · exact hi rfl
      · exact n37 b e e'
      · exact (k3 b e).2 i (by omega) hF
    · rcases hF with ⟨rfl,e'⟩ | ⟨rfl,e'⟩ | ⟨rfl,e'⟩ | ⟨hi',hF⟩
      · rcases hn b e' with e2 | hge
        · exact n7 b e e2.symm
        · have:=(h7.own b e).2;omega
      · exact n37 b e' e
      · exact hi rfl
      · exact (k7 b e).2 i (by omega) hF
theorem Yh.holds {Z:Nat→Prop} {N base:Nat} {w:World} {t:St} {v1 v2 v3 v4 v5 v6 v7:Value} (h:Yh Z base w t v1 v2 v3 v4 v5 v6 v7) (hZ:∀ b,Z b→b<N∨base≤b):Qn N base w (.agg #[.string t.name,.int .i64 t.height,.int .i64 t.time,v1,v2,v3,v4,v5,v6,v7]) t :=
  ⟨fun _ hb=>hb.2,fun _ hb hk=>⟨v1,v2,v3,v4,v5,v6,v7,rfl,(h.on hb (fun b hlt hr=>hk b ⟨hZ b hr,hlt⟩)).mem⟩⟩
theorem QfH (s:St) (v hv2:Value) (N:Nat) (w:World) (i c o q:Int) (h:Sh) (hv:StV w N v s) (hh:ShV w N hv2 h) (hN:N≤w.heap.size) (hfit:s.fits) (z:Int) (hhf:h.fits) (htab:Qt w) (hz:QaF s c o q h z) (hw:Qm s=0) (hl:QA s c=0) (hfo:Qg 0 o=true) (hfq:Qg 0 q=true) (hz0:z≠0) :
    Calls Tryz.prog 16 #[.int .u8 116,v,.int .i64 i,.int .i64 c,.int .i64 o,.int .i64 q,hv2] w fun e w'=>Below w.heap.size w w'∧∃ v',e=.returned (.tuple #[v',.int .i64 (0),.int .i64 (z)])∧Qn N w.heap.size w' v' (St.none):=by
  have HWR:=hid (fun wx (hx:Below w.heap.size w wx)=>Qv s v N wx (hv.below (hx.mono hN)) (Nat.le_trans hN hx.size) hfit)
  have HLV:=hid (fun wx (hx:Below w.heap.size w wx)=>Q4 s v N wx c (hv.below (hx.mono hN)) (Nat.le_trans hN hx.size) hw)
  have HCP:=hid (fun wx (hx:Below w.heap.size w wx)=>YK s v N wx (hv.below (hx.mono hN)) (Nat.le_trans hN hx.size) hfit (Qr hw))
  have HSV:=hid (show ∀ wx,Below w.heap.size w wx→StV wx N v s from fun wx hx=>hv.below (hx.mono hN))
  have HHV:=hid (show ∀ wx,Below w.heap.size w wx→ShV wx N hv2 h from fun wx hx=>hh.below (hx.mono hN))
  have HTAB:=hid (show ∀ wx,Below w.heap.size w wx→Qt wx from fun wx hx=>htab.past hx)
  have HSF:=hid hfit
  have HHF:=hid hhf
  have hcl:=J5 hl
  have HMW:=hid (show Qk ⟨1,o,c,-1⟩=0 from JJ (by omega) ((QW _ _).1 hfo) (by have:=(Qr hw).1;omega) (by omega))
  have HZ:=hid (show QZ s c h (Jo QN [q.toNat]) (JA ⟨1,o,c,-1⟩) z from hz)
  have hkl:=Jt q ((QW _ _).1 hfq)
  have hvl:=Jp ⟨1,o,c,-1⟩ HMW.out
  have hlc:s.conns.length≤100:=(Qr hw).2.1
  obtain ⟨o1,c1,o2,c2,o3,c3,o4,c4,o5,c5,o6,c6,o7,c7,rfl,hm⟩:=hv.open
  obtain ⟨q1,e1,q2,e2,q3,e3,r1,s1,r2,s2,r3,s3,r4,s4,r5,s5,r6,s6,rfl,-⟩:=hh.open
  obtain ⟨w0,hw0,hb0,HA0,HH0,HZ0,hsz0,RA,RH,RZ,RB,HD0,HIZ⟩:=QK w s h o1 o2 o3 o4 o5 o6 o7 c1 c2 c3 c4 c5 c6 c7 q1 e1 q2 e2 q3 e3 r1 s1 r2 s2 r3 s3 r4 s4 r5 s5 r6 s6
  have HB0:=hid hb0
  obtain ⟨k0,k1,k2,k3,k4,k5,k6,k7,k8,k9⟩:=HA0.out.c10
  have HW0:=hid hw0
  clear hv hm hh hfit hb0 hw0 hhf htab hz
  go_enter Tryz.func16,Tryz.ntmps16
  go_upto_region 2 with fail
  rw [HW0.out]
  go_wp2_with fail
  refine (HWR.out _ HB0.out).mono ?_
  rintro e w1 ⟨rfl,hb1⟩
  have HD1:=hgo HD0 hb1
  have hsz1:=hb1.size
  clear hb1
  clear k0 k1 k2 k3 k4 k5 k6 k7 k8 k9
  rw [hw]
  obtain ⟨w2,hw2⟩:∃ w2,w1.alloc (.cells #[.int .i64 0,.int .i64 0,.int .i64 0,.int .i64 0] 58)=w2:=⟨_,rfl⟩
  have hbw2:=bof hw2
  have HD2:=hgo HD1 hbw2
  have HX2:=hid (Q7 hw2)
  have hsz2:=hbw2.size
  have HW2:=hid hw2
  clear hbw2 hw2
  have hltX:w1.heap.size<w2.heap.size:=HX2.out.lt
  go_upto_region 13 with fail
  rw [HW2.out]
  obtain ⟨k0,k1,k2,k3,k4,k5,k6,k7,k8,k9⟩:=(RA.out _ HD2.out).c10
  go_wp2_with fail
  refine (HLV.out _ (RB.out _ HD2.out)).mono ?_
  rintro e w3 ⟨rfl,hbw3⟩
  have HD3:=hgo HD2 hbw3
  have HX3:=rgo HX2 hbw3
  have hsz3:=hbw3.size
  clear hbw3
  clear k0 k1 k2 k3 k4 k5 k6 k7 k8 k9
  rw [hl]
  obtain ⟨wp,hwp⟩:∃ wp,w3.alloc (.cells #[.int .i64 o] 3)=wp:=⟨_,rfl⟩
  have hbwp:=bof hwp
  have HDp:=hgo HD3 hbwp
  have HXp:=rgo HX3 hbwp
  have HFRp:=hid (Qy 0 [o] w3.heap.size 1 wp (by rw [← hwp];exact Row.new _ _ _) rfl (by decide))
  have HALp:=hid (show [o].all (Qg 0)=true by simp [hfo])
  have hszp:=hbwp.size
  have HWp:=hid hwp
  clear hbwp hwp
  obtain ⟨wq,hwq⟩:∃ wq,wp.alloc (.cells #[.int .i64 q] 3)=wq:=⟨_,rfl⟩
  have hbwq:=bof hwq
  have HDq:=hgo HDp hbwq
  have HXq:=rgo HXp hbwq
  have HFRq:=hid (Qy 0 [q] wp.heap.size 1 wq (by rw [← hwq];exact Row.new _ _ _) rfl (by decide))
  have HALq:=hid (show [q].all (Qg 0)=true by simp [hfq])
  have hszq:=hbwq.size
  have HWq:=hid hwq
  clear hbwq hwq
  obtain ⟨w5,hw5⟩:∃ w5,(wq.alloc (.cells #[.int .i64 0,.int .i64 0,.int .i64 0,.int .i64 0] 58)).alloc (.cells #[.int .i64 0] 3)=w5:=⟨_,rfl⟩
  have hbw5:Below wq.heap.size wq w5:=by rw [← hw5];exact ((Below.refl _ _).alloc (Nat.le_refl _) _).alloc (by simp) _
  have HD5:=hgo HDq hbw5
  have HX5:=rgo HXq hbw5
  have HKY:=hid (QM ⟨#[99,111,110,110]⟩ [0] (wq.heap.size+1) 1 w5 (by decide) (by rw [← hw5];exact Row.newAt _ _ _ _ (by simp)) rfl (by decide) (fun n hn=>by simp at hn;omega))
  have HM5:=hid (show Row w5 (wq.heap.size) 58 [.int .i64 0,.int .i64 0,.int .i64 0,.int .i64 0] by rw [← hw5];exact (Row.new _ _ _).alloc _)
  have hsz5:=hbw5.size
  have HW5:=hid hw5
  clear hbw5 hw5
  have hltM:=HM5.out.lt
  go_upto_region 18 with (go_at_call 44;first | (rw [HWp.out];refine HFRp.out.mono ?_;rintro e w' ⟨rfl,hww⟩;obtain rfl:=hww.symm;rw [HALp.out]) | (rw [HWq.out];refine HFRq.out.mono ?_;rintro e w' ⟨rfl,hww⟩;obtain rfl:=hww.symm;rw [HALq.out]))
  go_wp2_with fail
  rw [HW5.out]
  refine HKY.out.mono ?_
  rintro e wb ⟨kv0,rfl,-,hbwb⟩
  have HDb:=hgo HD5 hbwb
  have HXb:=rgo HX5 hbwb
  have HMb:=rgo HM5 hbwb
  have hszb:=hbwb.size
  clear hbwb
  obtain ⟨wr,hwr⟩:∃ wr,wb.alloc (.cells #[.int .i64 q] 3)=wr:=⟨_,rfl⟩
  have hbwr:=bof hwr
  have HDr:=hgo HDb hbwr
  have HXr:=rgo HXb hbwr
  have HMr:=rgo HMb hbwr
  have HKQ:=hid (QM ⟨#[99,111,110,110]⟩ [q] wb.heap.size 1 wr (by decide) (by rw [← hwr];exact Row.new _ _ _) rfl (by decide) (fun n hn=>by have:=(QW _ _).1 hfq;simp at hn;omega))
  have hszr:=hbwr.size
  have HWr:=hid hwr
  clear hbwr hwr
  go_upto_region 22 with fail
  go_wp2_with fail
  rw [HWr.out]
  refine HKQ.out.mono ?_
  rintro e ws ⟨kv,rfl,hkv,hbws⟩
  have HDs:=hgo HDr hbws
  have HXs:=rgo HXr hbws
  have HMs:=rgo HMr hbws
  have HKVs:=hid hkv
  clear hkv
  have hszs:=hbws.size
  clear hbws
  obtain ⟨m0,m1,m2,m3⟩:=HMs.out.c4
  obtain ⟨zm0,zm1,zm2,zm3⟩:=HMs.out.z4
  obtain ⟨wt,hwt,howt,HMt,hszt,hbb⟩:=YT HMs.out (.int .i64 1) (.int .i64 o) (.int .i64 c) (.int .i64 (-1))
  have HDt:=hid (hbb _ _ HDs.out (by omega))
  clear hbb
  have HXt:=hid (show Row wt (w1.heap.size) 58 [.int .i64 0,.int .i64 0,.int .i64 0,.int .i64 0] from (howt _ (by omega)).trans HXs.out)
  have HWt:=hid hwt
  clear hwt howt
  have HKT:=hid (show Bytes wt ws.heap.size kv (Jo QN [q.toNat]) from HKVs.out.only HMs.out rfl (fun b hb=>by rw [← HWt.out];exact (Below.heap_setCell _ _ _ _ hb).trans ((Below.heap_setCell _ _ _ _ hb).trans ((Below.heap_setCell _ _ _ _ hb).trans (Below.heap_setCell _ _ _ _ hb)))))
  go_upto_region 31 with fail
  rw [HWt.out]
  clear m0 m1 m2 m3 zm0 zm1 zm2 zm3
  refine QfR s h c z ⟨1,o,c,-1⟩ (Jo QN [q.toNat]) kv o1 o2 o3 o4 o5 o6 o7 c1 c2 c3 c4 c5 c6 c7 q1 q2 q3 r1 r2 r3 r4 r5 r6 e1 e2 e3 s1 s2 s3 s4 s5 s6 (N:=ws.heap.size) (by omega) (hid (RA.out _ HDt.out)) (hid (RH.out _ HDt.out)) HMt (hid ((HSV.out _ (RB.out _ HDt.out)).mono (by omega))) (hid ((HHV.out _ (RB.out _ HDt.out)).mono (by omega))) HKT HMW HSF HHF (hid (HTAB.out _ (RB.out _ HDt.out))) hcl hkl hvl HZ _ (hid ?_)
  intro σ w6 hbw6 ez
  have HD6:=hgo HDt hbw6
  have HX6:=rgo HXt hbw6
  have HM6:=rgo HMt hbw6
  have hsz6:=hbw6.size
  clear hbw6
  rw [ez]
  clear ez
  have e0:(z != 0)=true:=by simpa using hz0
  go_wp2_with fail
  refine (Jz _ _).mono ?_
  rintro x wn ⟨rfl,hbn⟩
  obtain ⟨wz,HHZz,HSWz,HBz,y0,y1,y2,y3,y4,y5,y6,y7,y8,y9⟩:=Q8 HB0.out (HD6.out.trans (hbn.mono HD6.out.size)) HZ0.out
  clear hbn
  go_wp2_with (refine Qf rfl (.tmp 14) (.tmp 180) rfl rfl rfl HHZz.out HIZ.out rfl ZT HSWz.out ?_)
  refine bodyPost_ret (v:=.tuple #[.agg zA,.int .i64 0,.int .i64 z]) (by simp [zA,results,Tryz.results16,go_sem,y0,y1,y2,y3,y4,y5,y6,y7,y8,y9]) rfl ⟨HBz.out,_,rfl,?_⟩
  exact Qp _ _ _
theorem Qg4 (s:St) (v hv2:Value) (N:Nat) (w:World) (i c o q:Int) (h:Sh) (hv:StV w N v s) (hh:ShV w N hv2 h) (hN:N≤w.heap.size) (hfit:s.fits) (z:Int) (hhf:h.fits) (htab:Qt w) (hz:QaF s c o q h z) (hw:Qm s=0) (hl:QA s c=0) (hfo:Qg 0 o=true) (hfq:Qg 0 q=true) (hz0:z=0) (h8:8≤s.conns.length) :
    Calls Tryz.prog 16 #[.int .u8 116,v,.int .i64 i,.int .i64 c,.int .i64 o,.int .i64 q,hv2] w fun e w'=>Below w.heap.size w w'∧∃ v',e=.returned (.tuple #[v',.int .i64 (0),.int .i64 (5)])∧Qn N w.heap.size w' v' (St.none):=by
  have HWR:=hid (fun wx (hx:Below w.heap.size w wx)=>Qv s v N wx (hv.below (hx.mono hN)) (Nat.le_trans hN hx.size) hfit)
  have HLV:=hid (fun wx (hx:Below w.heap.size w wx)=>Q4 s v N wx c (hv.below (hx.mono hN)) (Nat.le_trans hN hx.size) hw)
  have HCP:=hid (fun wx (hx:Below w.heap.size w wx)=>YK s v N wx (hv.below (hx.mono hN)) (Nat.le_trans hN hx.size) hfit (Qr hw))
  have HSV:=hid (show ∀ wx,Below w.heap.size w wx→StV wx N v s from fun wx hx=>hv.below (hx.mono hN))
  have HHV:=hid (show ∀ wx,Below w.heap.size w wx→ShV wx N hv2 h from fun wx hx=>hh.below (hx.mono hN))
  have HTAB:=hid (show ∀ wx,Below w.heap.size w wx→Qt wx from fun wx hx=>htab.past hx)
  have HSF:=hid hfit
  have HHF:=hid hhf
  have hcl:=J5 hl
  have HMW:=hid (show Qk ⟨1,o,c,-1⟩=0 from JJ (by omega) ((QW _ _).1 hfo) (by have:=(Qr hw).1;omega) (by omega))
  have HZ:=hid (show QZ s c h (Jo QN [q.toNat]) (JA ⟨1,o,c,-1⟩) z from hz)
  have hkl:=Jt q ((QW _ _).1 hfq)
  have hvl:=Jp ⟨1,o,c,-1⟩ HMW.out
  have hlc:s.conns.length≤100:=(Qr hw).2.1
  obtain ⟨o1,c1,o2,c2,o3,c3,o4,c4,o5,c5,o6,c6,o7,c7,rfl,hm⟩:=hv.open
  obtain ⟨q1,e1,q2,e2,q3,e3,r1,s1,r2,s2,r3,s3,r4,s4,r5,s5,r6,s6,rfl,-⟩:=hh.open
  obtain ⟨w0,hw0,hb0,HA0,HH0,HZ0,hsz0,RA,RH,RZ,RB,HD0,HIZ⟩:=QK w s h o1 o2 o3 o4 o5 o6 o7 c1 c2 c3 c4 c5 c6 c7 q1 e1 q2 e2 q3 e3 r1 s1 r2 s2 r3 s3 r4 s4 r5 s5 r6 s6
  have HB0:=hid hb0
  obtain ⟨k0,k1,k2,k3,k4,k5,k6,k7,k8,k9⟩:=HA0.out.c10
  have HW0:=hid hw0
  clear hv hm hh hfit hb0 hw0 hhf htab hz
  go_enter Tryz.func16,Tryz.ntmps16
  go_upto_region 2 with fail
  rw [HW0.out]
  go_wp2_with fail
  refine (HWR.out _ HB0.out).mono ?_
  rintro e w1 ⟨rfl,hb1⟩
  have HD1:=hgo HD0 hb1
  have hsz1:=hb1.size
  clear hb1
  clear k0 k1 k2 k3 k4 k5 k6 k7 k8 k9
  rw [hw]
  obtain ⟨w2,hw2⟩:∃ w2,w1.alloc (.cells #[.int .i64 0,.int .i64 0,.int .i64 0,.int .i64 0] 58)=w2:=⟨_,rfl⟩
  have hbw2:=bof hw2
  have HD2:=hgo HD1 hbw2
  have HX2:=hid (Q7 hw2)
  have hsz2:=hbw2.size
  have HW2:=hid hw2
  clear hbw2 hw2
  have hltX:w1.heap.size<w2.heap.size:=HX2.out.lt
  go_upto_region 13 with fail
  rw [HW2.out]
  obtain ⟨k0,k1,k2,k3,k4,k5,k6,k7,k8,k9⟩:=(RA.out _ HD2.out).c10
  go_wp2_with fail
  refine (HLV.out _ (RB.out _ HD2.out)).mono ?_
  rintro e w3 ⟨rfl,hbw3⟩
  have HD3:=hgo HD2 hbw3
  have HX3:=rgo HX2 hbw3
  have hsz3:=hbw3.size
  clear hbw3
  clear k0 k1 k2 k3 k4 k5 k6 k7 k8 k9
  rw [hl]
  obtain ⟨wp,hwp⟩:∃ wp,w3.alloc (.cells #[.int .i64 o] 3)=wp:=⟨_,rfl⟩
  have hbwp:=bof hwp
  have HDp:=hgo HD3 hbwp
  have HXp:=rgo HX3 hbwp
  have HFRp:=hid (Qy 0 [o] w3.heap.size 1 wp (by rw [← hwp];exact Row.new _ _ _) rfl (by decide))
  have HALp:=hid (show [o].all (Qg 0)=true by simp [hfo])
  have hszp:=hbwp.size
  have HWp:=hid hwp
  clear hbwp hwp
  obtain ⟨wq,hwq⟩:∃ wq,wp.alloc (.cells #[.int .i64 q] 3)=wq:=⟨_,rfl⟩
  have hbwq:=bof hwq
  have HDq:=hgo HDp hbwq
  have HXq:=rgo HXp hbwq
  have HFRq:=hid (Qy 0 [q] wp.heap.size 1 wq (by rw [← hwq];exact Row.new _ _ _) rfl (by decide))
  have HALq:=hid (show [q].all (Qg 0)=true by simp [hfq])
  have hszq:=hbwq.size
  have HWq:=hid hwq
  clear hbwq hwq
  obtain ⟨w5,hw5⟩:∃ w5,(wq.alloc (.cells #[.int .i64 0,.int .i64 0,.int .i64 0,.int .i64 0] 58)).alloc (.cells #[.int .i64 0] 3)=w5:=⟨_,rfl⟩
  have hbw5:Below wq.heap.size wq w5:=by rw [← hw5];exact ((Below.refl _ _).alloc (Nat.le_refl _) _).alloc (by simp) _
  have HD5:=hgo HDq hbw5
  have HX5:=rgo HXq hbw5
  have HKY:=hid (QM ⟨#[99,111,110,110]⟩ [0] (wq.heap.size+1) 1 w5 (by decide) (by rw [← hw5];exact Row.newAt _ _ _ _ (by simp)) rfl (by decide) (fun n hn=>by simp at hn;omega))
  have HM5:=hid (show Row w5 (wq.heap.size) 58 [.int .i64 0,.int .i64 0,.int .i64 0,.int .i64 0] by rw [← hw5];exact (Row.new _ _ _).alloc _)
  have hsz5:=hbw5.size
  have HW5:=hid hw5
  clear hbw5 hw5
  have hltM:=HM5.out.lt
  go_upto_region 18 with (go_at_call 44;first | (rw [HWp.out];refine HFRp.out.mono ?_;rintro e w' ⟨rfl,hww⟩;obtain rfl:=hww.symm;rw [HALp.out]) | (rw [HWq.out];refine HFRq.out.mono ?_;rintro e w' ⟨rfl,hww⟩;obtain rfl:=hww.symm;rw [HALq.out]))
  go_wp2_with fail
  rw [HW5.out]
  refine HKY.out.mono ?_
  rintro e wb ⟨kv0,rfl,-,hbwb⟩
  have HDb:=hgo HD5 hbwb
  have HXb:=rgo HX5 hbwb
  have HMb:=rgo HM5 hbwb
  have hszb:=hbwb.size
  clear hbwb
  obtain ⟨wr,hwr⟩:∃ wr,wb.alloc (.cells #[.int .i64 q] 3)=wr:=⟨_,rfl⟩
  have hbwr:=bof hwr
  have HDr:=hgo HDb hbwr
  have HXr:=rgo HXb hbwr
  have HMr:=rgo HMb hbwr
  have HKQ:=hid (QM ⟨#[99,111,110,110]⟩ [q] wb.heap.size 1 wr (by decide) (by rw [← hwr];exact Row.new _ _ _) rfl (by decide) (fun n hn=>by have:=(QW _ _).1 hfq;simp at hn;omega))
  have hszr:=hbwr.size
  have HWr:=hid hwr
  clear hbwr hwr
  go_upto_region 22 with fail
  go_wp2_with fail
  rw [HWr.out]
  refine HKQ.out.mono ?_
  rintro e ws ⟨kv,rfl,hkv,hbws⟩
  have HDs:=hgo HDr hbws
  have HXs:=rgo HXr hbws
  have HMs:=rgo HMr hbws
  have HKVs:=hid hkv
  clear hkv
  have hszs:=hbws.size
  clear hbws
  obtain ⟨m0,m1,m2,m3⟩:=HMs.out.c4
  obtain ⟨zm0,zm1,zm2,zm3⟩:=HMs.out.z4
  obtain ⟨wt,hwt,howt,HMt,hszt,hbb⟩:=YT HMs.out (.int .i64 1) (.int .i64 o) (.int .i64 c) (.int .i64 (-1))
  have HDt:=hid (hbb _ _ HDs.out (by omega))
  clear hbb
  have HXt:=hid (show Row wt (w1.heap.size) 58 [.int .i64 0,.int .i64 0,.int .i64 0,.int .i64 0] from (howt _ (by omega)).trans HXs.out)
  have HWt:=hid hwt
  clear hwt howt
  have HKT:=hid (show Bytes wt ws.heap.size kv (Jo QN [q.toNat]) from HKVs.out.only HMs.out rfl (fun b hb=>by rw [← HWt.out];exact (Below.heap_setCell _ _ _ _ hb).trans ((Below.heap_setCell _ _ _ _ hb).trans ((Below.heap_setCell _ _ _ _ hb).trans (Below.heap_setCell _ _ _ _ hb)))))
  go_upto_region 31 with fail
  rw [HWt.out]
  clear m0 m1 m2 m3 zm0 zm1 zm2 zm3
  refine QfR s h c z ⟨1,o,c,-1⟩ (Jo QN [q.toNat]) kv o1 o2 o3 o4 o5 o6 o7 c1 c2 c3 c4 c5 c6 c7 q1 q2 q3 r1 r2 r3 r4 r5 r6 e1 e2 e3 s1 s2 s3 s4 s5 s6 (N:=ws.heap.size) (by omega) (hid (RA.out _ HDt.out)) (hid (RH.out _ HDt.out)) HMt (hid ((HSV.out _ (RB.out _ HDt.out)).mono (by omega))) (hid ((HHV.out _ (RB.out _ HDt.out)).mono (by omega))) HKT HMW HSF HHF (hid (HTAB.out _ (RB.out _ HDt.out))) hcl hkl hvl HZ _ (hid ?_)
  intro σ w6 hbw6 ez
  have HD6:=hgo HDt hbw6
  have HX6:=rgo HXt hbw6
  have HM6:=rgo HMt hbw6
  have hsz6:=hbw6.size
  clear hbw6
  rw [ez]
  clear ez
  subst hz0
  have e8:decide ((8:Int)≤(s.conns.length:Int))=true:=by simp;omega
  obtain ⟨k0,k1,k2,k3,k4,k5,k6,k7,k8,k9⟩:=(RA.out _ HD6.out).c10
  go_wp2_with fail
  refine (HCP.out _ (RB.out _ HD6.out)).mono ?_
  rintro e w7 ⟨hbw7,p1,d1,p2,d2,p3,d3,p4,d4,p5,d5,p6,d6,p7,d7,rfl,hown⟩
  have HD7:=hgo HD6 hbw7
  have HX7:=rgo HX6 hbw7
  have HM7:=rgo HM6 hbw7
  have hsz7:=hbw7.size
  clear hbw7
  clear k0 k1 k2 k3 k4 k5 k6 k7 k8 k9
  have HO7:=hid hown
  clear hown
  obtain ⟨w8,hw8⟩:∃ w8,w7.alloc (.cells #[.string ⟨#[]⟩,.int .i64 0,.int .i64 0,.slice none 0 0,.slice none 0 0,.slice none 0 0,.slice none 0 0,.slice none 0 0,.slice none 0 0,.slice none 0 0] 28)=w8:=⟨_,rfl⟩
  have hbw8:=bof hw8
  have HD8:=hgo HD7 hbw8
  have HT8:=hid (Q7 hw8)
  have hsz8:=hbw8.size
  have HW8:=hid hw8
  clear hbw8 hw8
  obtain ⟨w9,hw9,HRSt,HHZt,HONt,HSWt⟩:=QJ HT8.out [.string s.name,.int .i64 s.height,.int .i64 s.time,.slice p1 s.clients.length d1,.slice p2 s.conns.length d2,.slice p3 s.chans.length d3,.slice p4 s.sent.length d4,.slice p5 s.got.length d5,.slice p6 s.acks.length d6,.slice p7 s.purses.length d7] (by simp [Value.oneCell'])
  have HD9:=hid (show Below w0.heap.size w0 w9 by rw [← hw9];exact Qd HD8.out (by omega) _)
  have ho9:∀ b,b≠w7.heap.size→w9.heap[b]?=w8.heap[b]?:=fun b hb=>by rw [← hw9];exact setRow_other _ _ _ _ hb
  have hsz9:w8.heap.size≤w9.heap.size:=by rw [← hw9];simp
  have hlt9:w7.heap.size<w9.heap.size:=by rw [← hw9];simp;exact HT8.out.lt
  have HO9:=hid (HO7.out.toZ.on (w':=w9) (by rw [← hw9];exact Qd ((Below.refl 0 w7).trans (by rw [← HW8.out];exact (Below.refl _ _).alloc (Nat.zero_le _) _)) (Nat.zero_le _) _) (fun b hlt hr=>(ho9 b hr.2).trans (by rw [← HW8.out];exact Below.heap_alloc _ _ _ hlt)))
  clear hw9 ho9
  have k4:w9.cell? ⟨w.heap.size,4,none⟩=some (.slice o2 s.conns.length c2):=(RA.out _ HD9.out).cell 4
  go_upto_region 40 with (first | rw [HW8.out] | skip;refine Qf rfl (.tmp 24) (.tmp 184) rfl rfl rfl HHZt.out HIZ.out rfl HONt.out HSWt.out ?_)
  clear k4
  go_wp2_with fail
  refine (Jz _ _).mono ?_
  rintro x wn ⟨rfl,hbn⟩
  obtain ⟨wz,HHZz,HSWz,HBz,y0,y1,y2,y3,y4,y5,y6,y7,y8,y9⟩:=Q8 HB0.out (HD9.out.trans (hbn.mono HD9.out.size)) HZ0.out
  clear hbn
  go_wp2_with (refine Qf rfl (.tmp 14) (.tmp 200) rfl rfl rfl HHZz.out HIZ.out rfl ZT HSWz.out ?_)
  refine bodyPost_ret (v:=.tuple #[.agg zA,.int .i64 0,.int .i64 5]) (by simp [zA,results,Tryz.results16,go_sem,y0,y1,y2,y3,y4,y5,y6,y7,y8,y9]) rfl ⟨HBz.out,_,rfl,?_⟩
  exact Qp _ _ _
end Go.Proofs.YtooemgkjkngpcaaGreatDoor
