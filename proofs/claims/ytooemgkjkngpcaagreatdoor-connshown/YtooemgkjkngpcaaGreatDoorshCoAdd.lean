/-
  A connection more, in a copy.
-/
import Derived.Test.YtooemgkjkngpcaaGreatDoorshCoMem
import Derived.Deep.AppendLies
namespace Go.Proofs.YtooemgkjkngpcaaGreatDoor
open Go.RowKit

/-- one record more: where it lies -/
theorem wpList_append1 {t st:TypeId} {k:Nat} (hF:RecF t st k) {ops:Array Oper} {rest:List Oper} {o:Oper} {a:Act} {W:World} {Q:Exit→Act→World→Prop} (hgd:o.guard=none) (s x:Operand)
    (ho:o.op=.call { callee:=.builtin .append,args:=#[s,x],argTypes:=#[st,st] })
    (base:Nat) (v:Value) (rs:List (List Value)) (hs:a.eval s=v) (hown:RowT t k W base v rs) (ad:Addr) (c:Nat) (r:List Value) {M:Nat} (hx:a.eval x=.slice (some ad) 1 c) (hsrc:Recs W M (.slice (some ad) 1 c) k [r])
    (hok:∀ q∈[r],q.length=k∧∀ x∈q,x.oneCell'=true) (hl:rs.length≤100000) (hbase:base≤W.heap.size)
    (h:∀ g cap w',RowT t k w' base (.slice (some ⟨g,0,none⟩) (rs.length+1) cap) (rs ++ [r])→Below base W w'→W.grownBy w' v.ownBlock→(v.ownBlock=some g∨g=W.heap.size)→wpList Tryz.prog ops Q rest (a.put o.dst (.slice (some ⟨g,0,none⟩) (rs.length+1) cap)) w'):wpList Tryz.prog ops Q (o :: rest) a W:=by
  obtain ⟨hu,i0,z,B,hi0,hz0,hz1,hz2,hz3,h0,hB⟩:=hF
  rcases hsrc.source (fun r hr=>(hok r hr).1) h0 with ⟨e,_⟩ | ⟨ad',cap,e,hcs⟩
  · cases e
  · simp only [List.length_singleton,Value.slice.injEq,Option.some.injEq] at e
    obtain ⟨rfl,-,rfl⟩:=e
    have hby:(rs.length+1)*B≤140737488355328:=by
      have h1:=Nat.mul_le_mul (show rs.length+1≤100001 by omega) hB
      omega
    refine wpList_append_lies W hgd s x st ho base t i0 z k B hu hi0 hz0 hz1 hz2 hz3 h0 v rs.length rs.flatten hs hown.2 ad 1 c [r].flatten hx (by simp [(hok r (by simp)).1]) hcs (flatT_one hok) (by decide) (by unfold maxLen;omega) hby hbase W.heap.size rfl ?_
    intro g cap w' h1 h2 h3 _
    refine h g cap w' ⟨fun q hq=>?_,?_⟩ ((Below.refl base W).grown h2 hbase (fun k hk=>(World.ownsRow.lt hown.2 k hk).1)) h2 h3
    · rcases List.mem_append.1 hq with hq | hq
      · exact hown.1 q hq
      · exact hok q hq
    · rw [List.length_append,List.flatten_append]
      exact h1
/-- one record in a block of its own -/
theorem one_rec {t:TypeId} {k:Nat} {W:World} {g:Nat} {r:List Value} (h:Row W g t r):Recs W (g+1) (.slice (some ⟨g,0,none⟩) 1 1) k [r]:=by
  refine .inr (.inr ⟨g,0,1,rfl,Nat.le_refl _,fun i r' hr=>?_⟩)
  have hi:i=0:=by have:=(List.getElem?_eq_some_iff.1 hr).1;simp at this;exact this
  subst hi
  obtain rfl:r=r':=by simpa using hr
  refine ⟨by omega,fun j x hx=>?_⟩
  rw [h.cell,show 0+0*k+j=j by omega]
  exact hx
set_option maxRecDepth 100000 in
set_option maxHeartbeats 8000000 in
theorem added_any (s:St) (v:Value) (N:Nat) (w:World) (o:Cn) (hv:StV w N v s) (hN:N≤w.heap.size) (hfit:s.fits) (hfew:few s) :
    Calls Tryz.prog 56 #[v,.agg #[.int .i64 o.state,.int .i64 o.client,.int .i64 o.oclient,.int .i64 o.oconn]] w fun e w'=>Below w.heap.size w w'∧∃ v',e=.returned (.tuple #[v',.int .i64 (addI s (manyN s)),.int .i64 (manyN s)])∧HoldsS N w.heap.size w' v' (addS s (manyN s) o):=by
  have HCP:=hid (show ∀ wx,Below w.heap.size w wx→_ from fun wx hx=>copyC s v N wx (hv.below (hx.mono hN)) (Nat.le_trans hN hx.size) hfit hfew)
  have hlc:s.conns.length≤100:=hfew.2.1
  obtain ⟨o1,c1,o2,c2,o3,c3,o4,c4,o5,c5,o6,c6,o7,c7,rfl,hm⟩:=hv.open
  obtain ⟨w0,hw0⟩:∃ w0,((w.alloc (.cells #[.string s.name,.int .i64 s.height,.int .i64 s.time,.slice o1 s.clients.length c1,.slice o2 s.conns.length c2,.slice o3 s.chans.length c3,.slice o4 s.sent.length c4,.slice o5 s.got.length c5,.slice o6 s.acks.length c6,.slice o7 s.purses.length c7] 28)).alloc (.cells #[.int .i64 o.state,.int .i64 o.client,.int .i64 o.oclient,.int .i64 o.oconn] 58)).alloc (.cells #[.string ⟨#[]⟩,.int .i64 0,.int .i64 0,.slice none 0 0,.slice none 0 0,.slice none 0 0,.slice none 0 0,.slice none 0 0,.slice none 0 0,.slice none 0 0] 28)=w0:=⟨_,rfl⟩
  have hb0:Below w.heap.size w w0:=by rw [← hw0];exact (((Below.refl _ _).alloc (Nat.le_refl _) _).alloc (by simp) _).alloc (by simp;omega) _
  have HB0:=hid hb0
  have HR0:=hid (show Row w0 (w.heap.size) 28 [.string s.name,.int .i64 s.height,.int .i64 s.time,.slice o1 s.clients.length c1,.slice o2 s.conns.length c2,.slice o3 s.chans.length c3,.slice o4 s.sent.length c4,.slice o5 s.got.length c5,.slice o6 s.acks.length c6,.slice o7 s.purses.length c7] by rw [← hw0];exact (((Row.new _ _ _).alloc _).alloc _))
  have HR1:=hid (show Row w0 (w.heap.size+1) 58 [.int .i64 o.state,.int .i64 o.client,.int .i64 o.oclient,.int .i64 o.oconn] by rw [← hw0];exact ((Row.newAt _ _ _ _ (by simp)).alloc _))
  have HR2:=hid (show Row w0 (w.heap.size+2) 28 [.string ⟨#[]⟩,.int .i64 0,.int .i64 0,.slice none 0 0,.slice none 0 0,.slice none 0 0,.slice none 0 0,.slice none 0 0,.slice none 0 0,.slice none 0 0] by rw [← hw0];exact (Row.newAt _ _ _ _ (by simp)))
  have hsz0:w0.heap.size=w.heap.size+3:=by rw [← hw0];simp
  have HIZ:=hid (show (Tryz.prog.info? 28).map (·.size)=some 10 by kernel_rfl)
  have k4:w0.cell? ⟨w.heap.size,4,none⟩=some (.slice o2 s.conns.length c2):=HR0.out.cell 4
  have HW0:=hid hw0
  clear hv hm hfit hfew hb0 hw0
  by_cases h8:8≤s.conns.length
  · have e8:decide ((8:Int)≤(s.conns.length:Int))=true:=by simp;omega
    have HM:=hid (show manyN s=5 from if_pos h8)
    obtain ⟨w1,hw1⟩:∃ w1,w0.setRow (w.heap.size+1+1) #[.string ⟨#[]⟩,.int .i64 0,.int .i64 0,.slice none 0 0,.slice none 0 0,.slice none 0 0,.slice none 0 0,.slice none 0 0,.slice none 0 0,.slice none 0 0]=w1:=⟨_,rfl⟩
    have HRS1:=hid (show Row w1 (w.heap.size+1+1) 28 [.string ⟨#[]⟩,.int .i64 0,.int .i64 0,.slice none 0 0,.slice none 0 0,.slice none 0 0,.slice none 0 0,.slice none 0 0,.slice none 0 0,.slice none 0 0] by rw [← hw1];exact Row.setRow HR2.out _)
    have HHZ1:=hid (show w0.heap[w.heap.size+1+1]?=some (.cells #[.string ⟨#[]⟩,.int .i64 0,.int .i64 0,.slice none 0 0,.slice none 0 0,.slice none 0 0,.slice none 0 0,.slice none 0 0,.slice none 0 0,.slice none 0 0] 28 (0,0)) from HR2.out)
    have HON1:=hid (show (#[.string ⟨#[]⟩,.int .i64 0,.int .i64 0,.slice none 0 0,.slice none 0 0,.slice none 0 0,.slice none 0 0,.slice none 0 0,.slice none 0 0,.slice none 0 0]:Array Value).all (·.oneCell')=true by simp [Value.oneCell'])
    have HSW1:=hid hw1
    have HB1:=hid (show Below w.heap.size w w1 by rw [← hw1];exact setRow_below HB0.out (by omega) _)
    clear hw1
    go_enter Tryz.func56,Tryz.ntmps56
    go_upto_region 1 with fail
    rw [HW0.out]
    go_wp2_with (refine wpList_store_row rfl 28 (.tmp 4) (.tmp 13) rfl (w.heap.size+1+1) #[.string ⟨#[]⟩,.int .i64 0,.int .i64 0,.slice none 0 0,.slice none 0 0,.slice none 0 0,.slice none 0 0,.slice none 0 0,.slice none 0 0,.slice none 0 0] rfl rfl 28 #[.string ⟨#[]⟩,.int .i64 0,.int .i64 0,.slice none 0 0,.slice none 0 0,.slice none 0 0,.slice none 0 0,.slice none 0 0,.slice none 0 0,.slice none 0 0] HHZ1.out HIZ.out rfl HON1.out ?_;rw [HSW1.out])
    have y0:=HRS1.out.cell 0
    simp at y0
    have y1:=HRS1.out.cell 1
    simp at y1
    have y2:=HRS1.out.cell 2
    simp at y2
    have y3:=HRS1.out.cell 3
    simp at y3
    have y4:=HRS1.out.cell 4
    simp at y4
    have y5:=HRS1.out.cell 5
    simp at y5
    have y6:=HRS1.out.cell 6
    simp at y6
    have y7:=HRS1.out.cell 7
    simp at y7
    have y8:=HRS1.out.cell 8
    simp at y8
    have y9:=HRS1.out.cell 9
    simp at y9
    refine bodyPost_ret (v:=.tuple #[.agg #[.string ⟨#[]⟩,.int .i64 0,.int .i64 0,.slice none 0 0,.slice none 0 0,.slice none 0 0,.slice none 0 0,.slice none 0 0,.slice none 0 0,.slice none 0 0],.int .i64 0,.int .i64 5]) (by simp [results,Tryz.results56,go_sem,y0,y1,y2,y3,y4,y5,y6,y7,y8,y9]) rfl ⟨HB1.out,_,by rw [HM.out];first | done | rfl,?_⟩
    rw [HM.out]
    exact holdsS_none _ _ _
  · have e8:decide ((8:Int)≤(s.conns.length:Int))=false:=by simp;omega
    have HM:=hid (show manyN s=0 from if_neg h8)
    have k0:w0.cell? ⟨w.heap.size,0,none⟩=some (.string s.name):=HR0.out.cell 0
    have k1:w0.cell? ⟨w.heap.size,1,none⟩=some (.int .i64 s.height):=HR0.out.cell 1
    have k2:w0.cell? ⟨w.heap.size,2,none⟩=some (.int .i64 s.time):=HR0.out.cell 2
    have k3:w0.cell? ⟨w.heap.size,3,none⟩=some (.slice o1 s.clients.length c1):=HR0.out.cell 3
    have k5:w0.cell? ⟨w.heap.size,5,none⟩=some (.slice o3 s.chans.length c3):=HR0.out.cell 5
    have k6:w0.cell? ⟨w.heap.size,6,none⟩=some (.slice o4 s.sent.length c4):=HR0.out.cell 6
    have k7:w0.cell? ⟨w.heap.size,7,none⟩=some (.slice o5 s.got.length c5):=HR0.out.cell 7
    have k8:w0.cell? ⟨w.heap.size,8,none⟩=some (.slice o6 s.acks.length c6):=HR0.out.cell 8
    have k9:w0.cell? ⟨w.heap.size,9,none⟩=some (.slice o7 s.purses.length c7):=HR0.out.cell 9
    go_enter Tryz.func56,Tryz.ntmps56
    go_upto_region 1 with fail
    rw [HW0.out]
    go_wp2_with fail
    refine (HCP.out _ HB0.out).mono ?_
    rintro e w1 ⟨hb1,p1,d1,p2,d2,p3,d3,p4,d4,p5,d5,p6,d6,p7,d7,rfl,hown⟩
    have HB1:=hid (HB0.out.trans (hb1.mono HB0.out.size))
    have HRA:=hid (HR0.out.below hb1 HR0.out.lt)
    have HRC:=hid (HR1.out.below hb1 HR1.out.lt)
    have HRZ:=hid (HR2.out.below hb1 HR2.out.lt)
    have hsz1:w0.heap.size≤w1.heap.size:=hb1.size
    obtain ⟨w2,hw2⟩:∃ w2,w1.setRow (w.heap.size) #[.string s.name,.int .i64 s.height,.int .i64 s.time,.slice p1 s.clients.length d1,.slice p2 s.conns.length d2,.slice p3 s.chans.length d3,.slice p4 s.sent.length d4,.slice p5 s.got.length d5,.slice p6 s.acks.length d6,.slice p7 s.purses.length d7]=w2:=⟨_,rfl⟩
    have HRS2:=hid (show Row w2 (w.heap.size) 28 [.string s.name,.int .i64 s.height,.int .i64 s.time,.slice p1 s.clients.length d1,.slice p2 s.conns.length d2,.slice p3 s.chans.length d3,.slice p4 s.sent.length d4,.slice p5 s.got.length d5,.slice p6 s.acks.length d6,.slice p7 s.purses.length d7] by rw [← hw2];exact Row.setRow HRA.out _)
    have HHZ2:=hid (show w1.heap[w.heap.size]?=some (.cells #[.string s.name,.int .i64 s.height,.int .i64 s.time,.slice o1 s.clients.length c1,.slice o2 s.conns.length c2,.slice o3 s.chans.length c3,.slice o4 s.sent.length c4,.slice o5 s.got.length c5,.slice o6 s.acks.length c6,.slice o7 s.purses.length c7] 28 (0,0)) from HRA.out)
    have HON2:=hid (show (#[.string s.name,.int .i64 s.height,.int .i64 s.time,.slice p1 s.clients.length d1,.slice p2 s.conns.length d2,.slice p3 s.chans.length d3,.slice p4 s.sent.length d4,.slice p5 s.got.length d5,.slice p6 s.acks.length d6,.slice p7 s.purses.length d7]:Array Value).all (·.oneCell')=true by simp [Value.oneCell'])
    have HSW2:=hid hw2
    have HO2:=hid (hown.on (w':=w2) (by rw [← hw2];exact setRow_below (Below.refl 0 w1) (Nat.zero_le _) _) (fun b _ hlt=>by rw [← hw2];exact setRow_other _ _ _ _ (by omega)))
    have HB2:=hid (show Below w.heap.size w w2 by rw [← hw2];exact setRow_below HB1.out (Nat.le_refl _) _)
    have HC2:=hid (show Row w2 (w.heap.size+1) 58 [.int .i64 o.state,.int .i64 o.client,.int .i64 o.oclient,.int .i64 o.oconn] by rw [← hw2];exact (setRow_other _ _ _ _ (by omega)).trans HRC.out)
    have HZ2:=hid (show Row w2 (w.heap.size+1+1) 28 [.string ⟨#[]⟩,.int .i64 0,.int .i64 0,.slice none 0 0,.slice none 0 0,.slice none 0 0,.slice none 0 0,.slice none 0 0,.slice none 0 0,.slice none 0 0] by rw [← hw2];exact (setRow_other _ _ _ _ (by omega)).trans HRZ.out)
    have hsz2:w1.heap.size≤w2.heap.size:=by rw [← hw2];simp
    clear k0 k1 k2 k3 k4 k5 k6 k7 k8 k9 hb1 hown hw2
    go_upto_region 5 with (refine wpList_store_row rfl 28 (.tmp 2) (.tmp 15) rfl (w.heap.size) #[.string s.name,.int .i64 s.height,.int .i64 s.time,.slice p1 s.clients.length d1,.slice p2 s.conns.length d2,.slice p3 s.chans.length d3,.slice p4 s.sent.length d4,.slice p5 s.got.length d5,.slice p6 s.acks.length d6,.slice p7 s.purses.length d7] rfl rfl 28 #[.string s.name,.int .i64 s.height,.int .i64 s.time,.slice o1 s.clients.length c1,.slice o2 s.conns.length c2,.slice o3 s.chans.length c3,.slice o4 s.sent.length c4,.slice o5 s.got.length c5,.slice o6 s.acks.length c6,.slice o7 s.purses.length c7] HHZ2.out HIZ.out rfl HON2.out ?_;rw [HSW2.out])
    obtain ⟨w3,hw3⟩:∃ w3,w2.alloc (.cells #[.int .i64 o.state,.int .i64 o.client,.int .i64 o.oclient,.int .i64 o.oconn] 58)=w3:=⟨_,rfl⟩
    have hb3:Below w2.heap.size w2 w3:=by rw [← hw3];exact (Below.refl _ _).alloc (Nat.le_refl _) _
    have HSRC:=hid (show Recs w3 (w2.heap.size+1) (.slice (some ⟨w2.heap.size,0,none⟩) 1 1) 4 [cnCells o] from one_rec (by rw [← hw3];exact Row.new _ _ _))
    have HO3:=hid (HO2.out.below hb3)
    have HOC:=hid HO3.out.conns
    have HB3:=hid (HB2.out.trans (hb3.mono HB2.out.size))
    have HR3:=hid (HRS2.out.below hb3 HRS2.out.lt)
    have HZ3:=hid (HZ2.out.below hb3 HZ2.out.lt)
    have hsz3:w2.heap.size≤w3.heap.size:=hb3.size
    have c4:w2.cell? ⟨w.heap.size,4,none⟩=some (.slice p2 s.conns.length d2):=HRS2.out.cell 4
    have m0:w2.cell? ⟨w.heap.size+1,0,none⟩=some (.int .i64 o.state):=HC2.out.cell 0
    have m1:w2.cell? ⟨w.heap.size+1,1,none⟩=some (.int .i64 o.client):=HC2.out.cell 1
    have m2:w2.cell? ⟨w.heap.size+1,2,none⟩=some (.int .i64 o.oclient):=HC2.out.cell 2
    have m3:w2.cell? ⟨w.heap.size+1,3,none⟩=some (.int .i64 o.oconn):=HC2.out.cell 3
    have HW3:=hid hw3
    clear hb3 hw3
    go_wp2_with (at_builtin;refine Hid.out ?_)
    rw [HW3.out]
    refine hid ?_
    refine wpList_append1 recFCn rfl _ _ rfl w0.heap.size _ (s.conns.map cnCells) rfl HOC.out _ _ (cnCells o) rfl HSRC.out (cnCells_ok (l:=[o])) (by simp;omega) (by omega) ?_
    intro g da w4 hrow hb4 hg4 hlie
    have hle:(s.conns.map cnCells).length+1=(s.conns ++ [o]).length:=by simp
    rw [hle] at hrow ⊢
    obtain ⟨pa,hpa⟩:∃ pa:Option Addr,some ⟨g,0,none⟩=pa:=⟨_,rfl⟩
    have hrow':OwnC 58 cnCells 4 w4 w0.heap.size (.slice (some ⟨g,0,none⟩) (s.conns ++ [o]).length da) (s.conns ++ [o]):=by have:=hrow;rw [← List.map_singleton,← List.map_append] at this;exact this
    have ho4:=HO3.out.putConns hg4 hrow' (fun b e=>by obtain rfl:g=b:=(by simpa [Value.ownBlock] using e);exact hlie.imp id (fun h=>by omega))
    rw [hpa] at ho4 ⊢
    have hne:∀ g,g<w0.heap.size→w4.heap[g]?=w3.heap[g]?:=fun g hg=>hb4.block g hg
    have HR4:=hid (show Row w4 w.heap.size 28 [.string s.name,.int .i64 s.height,.int .i64 s.time,.slice p1 s.clients.length d1,.slice p2 s.conns.length d2,.slice p3 s.chans.length d3,.slice p4 s.sent.length d4,.slice p5 s.got.length d5,.slice p6 s.acks.length d6,.slice p7 s.purses.length d7] from (hne _ (by omega)).trans HR3.out)
    have HZ4:=hid (show Row w4 (w.heap.size+1+1) 28 [.string ⟨#[]⟩,.int .i64 0,.int .i64 0,.slice none 0 0,.slice none 0 0,.slice none 0 0,.slice none 0 0,.slice none 0 0,.slice none 0 0,.slice none 0 0] from (hne _ (by omega)).trans HZ3.out)
    have HB4:=hid (show Below w.heap.size w w4 from HB3.out.trans (hb4.mono (by omega)))
    have g4:w4.cell? ⟨w.heap.size,4,none⟩=some (.slice p2 s.conns.length d2):=HR4.out.cell 4
    have z4:w4.frozen? ⟨w.heap.size,4,none⟩=false:=HR4.out.frozen 4
    obtain ⟨w5,hw5⟩:∃ w5,w4.setCell ⟨w.heap.size,4,none⟩ (.slice pa (s.conns ++ [o]).length da)=w5:=⟨_,rfl⟩
    have HR5:=hid (show Row w5 w.heap.size 28 [.string s.name,.int .i64 s.height,.int .i64 s.time,.slice p1 s.clients.length d1,.slice pa (s.conns ++ [o]).length da,.slice p3 s.chans.length d3,.slice p4 s.sent.length d4,.slice p5 s.got.length d5,.slice p6 s.acks.length d6,.slice p7 s.purses.length d7] by rw [← hw5];exact HR4.out.set 4 _)
    have HZ5:=hid (show Row w5 (w.heap.size+1+1) 28 [.string ⟨#[]⟩,.int .i64 0,.int .i64 0,.slice none 0 0,.slice none 0 0,.slice none 0 0,.slice none 0 0,.slice none 0 0,.slice none 0 0,.slice none 0 0] by rw [← hw5];exact HZ4.out.other _ (by simp;omega))
    have HO5:=hid (show StOwn N w0.heap.size w5 { s with conns:=s.conns ++ [o] } (.slice p1 s.clients.length d1) (.slice pa (s.conns ++ [o]).length da) (.slice p3 s.chans.length d3) (.slice p4 s.sent.length d4) (.slice p5 s.got.length d5) (.slice p6 s.acks.length d6) (.slice p7 s.purses.length d7) by rw [← hw5];exact ho4.setCell (a:=⟨w.heap.size,4,none⟩) hN (by simp;omega) _)
    have HB5:=hid (show Below w.heap.size w w5 by rw [← hw5];exact HB4.out.setCell (Nat.le_refl _) _)
    have HW5:=hid hw5
    clear hrow hrow' ho4 hb4 hg4 hne hw5 c4 m0 m1 m2 m3 hlie hle hpa
    generalize hln:(s.conns ++ [o]).length=ln at *
    have HLN:=hid hln
    clear hln
    go_upto_region 6 with fail
    rw [HW5.out]
    obtain ⟨w6,hw6⟩:∃ w6,w5.setRow (w.heap.size+1+1) #[.string s.name,.int .i64 s.height,.int .i64 s.time,.slice p1 s.clients.length d1,.slice pa ln da,.slice p3 s.chans.length d3,.slice p4 s.sent.length d4,.slice p5 s.got.length d5,.slice p6 s.acks.length d6,.slice p7 s.purses.length d7]=w6:=⟨_,rfl⟩
    have HRS6:=hid (show Row w6 (w.heap.size+1+1) 28 [.string s.name,.int .i64 s.height,.int .i64 s.time,.slice p1 s.clients.length d1,.slice pa ln da,.slice p3 s.chans.length d3,.slice p4 s.sent.length d4,.slice p5 s.got.length d5,.slice p6 s.acks.length d6,.slice p7 s.purses.length d7] by rw [← hw6];exact Row.setRow HZ5.out _)
    have HHZ6:=hid (show w5.heap[w.heap.size+1+1]?=some (.cells #[.string ⟨#[]⟩,.int .i64 0,.int .i64 0,.slice none 0 0,.slice none 0 0,.slice none 0 0,.slice none 0 0,.slice none 0 0,.slice none 0 0,.slice none 0 0] 28 (0,0)) from HZ5.out)
    have HON6:=hid (show (#[.string s.name,.int .i64 s.height,.int .i64 s.time,.slice p1 s.clients.length d1,.slice pa ln da,.slice p3 s.chans.length d3,.slice p4 s.sent.length d4,.slice p5 s.got.length d5,.slice p6 s.acks.length d6,.slice p7 s.purses.length d7]:Array Value).all (·.oneCell')=true by simp [Value.oneCell'])
    have HSW6:=hid hw6
    have HB6:=hid (show Below w.heap.size w w6 by rw [← hw6];exact setRow_below HB5.out (by omega) _)
    have HO6:=hid (HO5.out.on (w':=w6) (by rw [← hw6];exact setRow_below (Below.refl 0 w5) (Nat.zero_le _) _) (fun b _ hlt=>by rw [← hw6];exact setRow_other _ _ _ _ (by omega)))
    have q0:w5.cell? ⟨w.heap.size,0,none⟩=some (.string s.name):=HR5.out.cell 0
    have q1:w5.cell? ⟨w.heap.size,1,none⟩=some (.int .i64 s.height):=HR5.out.cell 1
    have q2:w5.cell? ⟨w.heap.size,2,none⟩=some (.int .i64 s.time):=HR5.out.cell 2
    have q3:w5.cell? ⟨w.heap.size,3,none⟩=some (.slice p1 s.clients.length d1):=HR5.out.cell 3
    have q4:w5.cell? ⟨w.heap.size,4,none⟩=some (.slice pa ln da):=HR5.out.cell 4
    have q5:w5.cell? ⟨w.heap.size,5,none⟩=some (.slice p3 s.chans.length d3):=HR5.out.cell 5
    have q6:w5.cell? ⟨w.heap.size,6,none⟩=some (.slice p4 s.sent.length d4):=HR5.out.cell 6
    have q7:w5.cell? ⟨w.heap.size,7,none⟩=some (.slice p5 s.got.length d5):=HR5.out.cell 7
    have q8:w5.cell? ⟨w.heap.size,8,none⟩=some (.slice p6 s.acks.length d6):=HR5.out.cell 8
    have q9:w5.cell? ⟨w.heap.size,9,none⟩=some (.slice p7 s.purses.length d7):=HR5.out.cell 9
    clear hw6
    go_wp2_with (refine wpList_store_row rfl 28 (.tmp 4) (.tmp 22) rfl (w.heap.size+1+1) #[.string s.name,.int .i64 s.height,.int .i64 s.time,.slice p1 s.clients.length d1,.slice pa ln da,.slice p3 s.chans.length d3,.slice p4 s.sent.length d4,.slice p5 s.got.length d5,.slice p6 s.acks.length d6,.slice p7 s.purses.length d7] rfl rfl 28 #[.string ⟨#[]⟩,.int .i64 0,.int .i64 0,.slice none 0 0,.slice none 0 0,.slice none 0 0,.slice none 0 0,.slice none 0 0,.slice none 0 0,.slice none 0 0] HHZ6.out HIZ.out rfl HON6.out ?_;rw [HSW6.out])
    have y0:=HRS6.out.cell 0
    simp at y0
    have y1:=HRS6.out.cell 1
    simp at y1
    have y2:=HRS6.out.cell 2
    simp at y2
    have y3:=HRS6.out.cell 3
    simp at y3
    have y4:=HRS6.out.cell 4
    simp at y4
    have y5:=HRS6.out.cell 5
    simp at y5
    have y6:=HRS6.out.cell 6
    simp at y6
    have y7:=HRS6.out.cell 7
    simp at y7
    have y8:=HRS6.out.cell 8
    simp at y8
    have y9:=HRS6.out.cell 9
    simp at y9
    refine bodyPost_ret (v:=.tuple #[.agg #[.string s.name,.int .i64 s.height,.int .i64 s.time,.slice p1 s.clients.length d1,.slice pa ln da,.slice p3 s.chans.length d3,.slice p4 s.sent.length d4,.slice p5 s.got.length d5,.slice p6 s.acks.length d6,.slice p7 s.purses.length d7],.int .i64 (s.conns.length:Int),.int .i64 0]) (by simp [results,Tryz.results56,go_sem,y0,y1,y2,y3,y4,y5,y6,y7,y8,y9]) rfl ⟨HB6.out,_,by rw [HM.out];first | done | rfl,?_⟩
    rw [HM.out]
    exact (HO6.out.lower (by omega)).holds
end Go.Proofs.YtooemgkjkngpcaaGreatDoor
