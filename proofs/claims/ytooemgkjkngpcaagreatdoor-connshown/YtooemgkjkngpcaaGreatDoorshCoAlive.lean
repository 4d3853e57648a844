/-
  The law's closed fact: a connection begins.
-/
import Derived.Test.YtooemgkjkngpcaaGreatDoorshCoFit
namespace Go.Proofs.YtooemgkjkngpcaaGreatDoor
open Go.RowKit

def kn9:Kn:=⟨1,1,List.replicate 32 0,List.replicate 32 0⟩
def cl9:Cl:=⟨⟨#[98]⟩,9,false,[kn9]⟩
def one9:St:=⟨⟨#[97]⟩,1,1,[cl9],[],[],[],[],[],[]⟩
theorem cl9_right:wrongCl cl9=0:=(wrongCl_iff cl9).2 ⟨by decide,by decide,by decide,fun k hk=>by
  obtain rfl:k=kn9:=by simpa [cl9] using hk
  decide,by simp [cl9,Rising]⟩
theorem one9_right:wrongS one9=0:=by
  unfold wrongS
  rw [if_neg (by decide),if_neg (by decide),if_neg (by decide)]
  refine (orN_iff _).2 ?_
  simp only [List.mem_cons,List.not_mem_nil,or_false,forall_eq_or_imp,forall_eq]
  exact ⟨(firstW_iff _ _).2 (fun c hc=>by obtain rfl:c=cl9:=(by simpa [one9] using hc);exact cl9_right),rfl,rfl,rfl,rfl,rfl,rfl⟩
theorem one9_live:liveN one9 0=0:=by decide
theorem one9_init:initN one9 0 3=0:=by
  unfold initN startN manyN
  rw [if_neg (by simp [one9_right,one9_live]),if_neg (by decide),if_neg (by decide)]
theorem one9_state:initS one9 0 3={ one9 with conns:=[⟨1,0,3,-1⟩] }:=by
  unfold initS addS
  rw [one9_init,if_pos rfl]
  rfl
theorem one9_fits:one9.fits:=⟨by show (1:Nat)≤_;omega,⟨by show (1:Nat)<_;omega,fun c hc=>by
  obtain rfl:c=cl9:=by simpa [one9] using hc
  exact ⟨by show (1:Nat)≤_;omega,by show (1:Nat)<_;omega,fun k hk=>by
    obtain rfl:k=kn9:=by simpa [cl9] using hk
    exact ⟨by simp [kn9],by simp [kn9]⟩⟩⟩,by show (0:Nat)<_;omega,by show (0:Nat)<_;omega,⟨by show (0:Nat)<_;omega,fun _ h=>by cases h⟩,⟨by show (0:Nat)<_;omega,fun _ h=>by cases h⟩,⟨by show (0:Nat)<_;omega,fun _ h=>by cases h⟩,by show (0:Nat)<_;omega,fun _ h=>by cases h⟩
set_option maxRecDepth 100000 in
set_option maxHeartbeats 4000000 in
theorem one9_any (w:World):Calls Tryz.prog 66 #[] w fun e w'=>Below w.heap.size w w'∧∃ v,e=.returned v∧StV w' w'.heap.size v one9:=by
  have hmk:∀ w:World,(Instr.makeSlice 35 (.int .i64 32) (.int .i64 32)).run Tryz.prog w=.ok (.slice (some ⟨w.heap.size,0,none⟩) 32 32) (w.alloc (.cells ((List.replicate 32 (0:BitVec 8)).map V).toArray 5)):=fun _=>by kernel_rfl
  obtain ⟨w0,hw0⟩:∃ w0,w.alloc (.cells #[.string ⟨#[]⟩,.int .i64 0,.int .i64 0,.slice none 0 0,.slice none 0 0,.slice none 0 0,.slice none 0 0,.slice none 0 0,.slice none 0 0,.slice none 0 0] 28)=w0:=⟨_,rfl⟩
  have hsz0:w0.heap.size=w.heap.size+1:=by rw [← hw0];simp
  have hr0:Row w0 w.heap.size 28 [.string ⟨#[]⟩,.int .i64 0,.int .i64 0,.slice none 0 0,.slice none 0 0,.slice none 0 0,.slice none 0 0,.slice none 0 0,.slice none 0 0,.slice none 0 0]:=by rw [← hw0];exact Row.new _ _ _
  obtain ⟨w1,hw1⟩:∃ w1,w0.alloc (.cells ((List.replicate 32 (0:BitVec 8)).map V).toArray 5)=w1:=⟨_,rfl⟩
  have hb1:Below w0.heap.size w0 w1:=by rw [← hw1];exact (Below.refl _ _).alloc (Nat.le_refl _) _
  have hmk0:=hmk w0
  rw [hw1,hsz0] at hmk0
  have hbw:Below w.heap.size w w1:=by rw [← hw1,← hw0];exact ((Below.refl _ _).alloc (Nat.le_refl _) _).alloc (by simp) _
  have hr1:=hr0.below hb1 hr0.lt
  have how:OwnB w1 (w.heap.size+1) (.slice (some ⟨w.heap.size+1,0,none⟩) 32 32) (List.replicate 32 0) :=
    ⟨by simp,.inr ⟨w.heap.size+1,32,((List.replicate 32 (0:BitVec 8)).map V).toArray,rfl,Nat.le_refl _,by rw [← hw1,← hsz0];exact heap_alloc_new _ _,by simp,by unfold maxLen;omega,by simp,by simp⟩⟩
  obtain ⟨w2,hw2⟩:∃ w2,(w1.alloc (.cells #[.int .i64 1,.int .i64 1,.slice (some ⟨w.heap.size+1,0,none⟩) 32 32,.slice (some ⟨w.heap.size+1,0,none⟩) 32 32] 125)).alloc (.cells #[.string ⟨#[98]⟩,.int .i64 9,.bool false,.slice (some ⟨w1.heap.size,0,none⟩) 1 1] 62)=w2:=⟨_,rfl⟩
  have hb2:Below w1.heap.size w1 w2:=by rw [← hw2];exact ((Below.refl _ _).alloc (Nat.le_refl _) _).alloc (by simp) _
  have hk2:Row w2 w1.heap.size 125 [.int .i64 1,.int .i64 1,.slice (some ⟨w.heap.size+1,0,none⟩) 32 32,.slice (some ⟨w.heap.size+1,0,none⟩) 32 32]:=by rw [← hw2];exact (Row.new _ _ _).alloc _
  have hc2:Row w2 (w1.heap.size+1) 62 [.string ⟨#[98]⟩,.int .i64 9,.bool false,.slice (some ⟨w1.heap.size,0,none⟩) 1 1]:=by rw [← hw2];exact Row.newAt _ _ _ _ (by simp)
  have hby:=(how.bytes.below hb2).mono hb2.size
  have hks:Knowns w2 w2.heap.size (.slice (some ⟨w1.heap.size,0,none⟩) 1 1) [kn9]:=⟨[⟨kn9,.slice (some ⟨w.heap.size+1,0,none⟩) 32 32,.slice (some ⟨w.heap.size+1,0,none⟩) 32 32⟩],rfl,(one_rec hk2).mono (by have:=hk2.lt;omega),fun q hq=>by obtain rfl:=List.mem_singleton.1 hq;exact ⟨hby,hby⟩⟩
  have hcs:Many ClR 4 w2 w2.heap.size (.slice (some ⟨w1.heap.size+1,0,none⟩) 1 1) [cl9]:=⟨[[.string ⟨#[98]⟩,.int .i64 9,.bool false,.slice (some ⟨w1.heap.size,0,none⟩) 1 1]],rfl,(one_rec hc2).mono (by have:=hc2.lt;omega),fun i r x hr hx=>by
    have hi:i=0:=by have:=(List.getElem?_eq_some_iff.1 hr).1;simp at this;exact this
    subst hi
    obtain rfl:[.string ⟨#[98]⟩,.int .i64 9,.bool false,.slice (some ⟨w1.heap.size,0,none⟩) 1 1]=r:=by simpa using hr
    obtain rfl:cl9=x:=by simpa using hx
    exact ⟨_,rfl,hks⟩⟩
  have HR2:=hid (hr1.below hb2 hr1.lt)
  have HSV:=hid (show HoldsS 0 (w.heap.size+1) w2 (.agg #[.string ⟨#[97]⟩,.int .i64 1,.int .i64 1,.slice (some ⟨w1.heap.size+1,0,none⟩) 1 1,.slice none 0 0,.slice none 0 0,.slice none 0 0,.slice none 0 0,.slice none 0 0,.slice none 0 0]) one9 from
    ⟨fun b hb=>hb.2,fun w3 h3 hk3=>by
      have hag:∀ b,w.heap.size+1≤b→b<w2.heap.size→w3.heap[b]?=w2.heap[b]?:=fun b h1 h2=>hk3 b ⟨.inr h1,h2⟩
      have hlt1:=hk2.lt
      have hlt2:=hc2.lt
      have h10:w.heap.size+1<w1.heap.size:=by rw [← hw1];simp;omega
      have hk3':Row w3 w1.heap.size 125 [.int .i64 1,.int .i64 1,.slice (some ⟨w.heap.size+1,0,none⟩) 32 32,.slice (some ⟨w.heap.size+1,0,none⟩) 32 32]:=(hag _ (by omega) hlt1).trans hk2
      have hc3':Row w3 (w1.heap.size+1) 62 [.string ⟨#[98]⟩,.int .i64 9,.bool false,.slice (some ⟨w1.heap.size,0,none⟩) 1 1]:=(hag _ (by omega) hlt2).trans hc2
      have hb3':OwnB w3 (w.heap.size+1) (.slice (some ⟨w.heap.size+1,0,none⟩) 32 32) (List.replicate 32 0):=ownsRow_at (show w2.ownsRow _ _ _ _ _ _ from ownsRow_belowR how hb2) (fun g hg=>by obtain rfl:w.heap.size+1=g:=(by simpa [Value.ownBlock] using hg);exact hag _ (by omega) (by omega))
      have hsz3:=h3.size
      have hks3:Knowns w3 w3.heap.size (.slice (some ⟨w1.heap.size,0,none⟩) 1 1) [kn9]:=⟨[⟨kn9,.slice (some ⟨w.heap.size+1,0,none⟩) 32 32,.slice (some ⟨w.heap.size+1,0,none⟩) 32 32⟩],rfl,(one_rec hk3').mono (by omega),fun q hq=>by obtain rfl:=List.mem_singleton.1 hq;exact ⟨hb3'.bytes,hb3'.bytes⟩⟩
      have hcs3:Many ClR 4 w3 w3.heap.size (.slice (some ⟨w1.heap.size+1,0,none⟩) 1 1) [cl9]:=⟨[[.string ⟨#[98]⟩,.int .i64 9,.bool false,.slice (some ⟨w1.heap.size,0,none⟩) 1 1]],rfl,(one_rec hc3').mono (by omega),fun i r x hr hx=>by
        have hi:i=0:=by have:=(List.getElem?_eq_some_iff.1 hr).1;simp at this;exact this
        subst hi
        obtain rfl:[.string ⟨#[98]⟩,.int .i64 9,.bool false,.slice (some ⟨w1.heap.size,0,none⟩) 1 1]=r:=by simpa using hr
        obtain rfl:cl9=x:=by simpa using hx
        exact ⟨_,rfl,hks3⟩⟩
      exact ⟨_,_,_,_,_,_,_,rfl,hcs3,Many.nil _ _ _ _,Many.nil _ _ _ _,Many.nil _ _ _ _,Many.nil _ _ _ _,Many.nil _ _ _ _,Many.nil _ _ _ _⟩⟩)
  have HB2:=hid (hbw.trans (hb2.mono hbw.size))
  have HIZ:=hid (show (Tryz.prog.info? 28).map (·.size)=some 10 by kernel_rfl)
  obtain ⟨w3,hw3⟩:∃ w3,w2.setRow (w.heap.size) #[.string ⟨#[97]⟩,.int .i64 1,.int .i64 1,.slice (some ⟨w1.heap.size+1,0,none⟩) 1 1,.slice none 0 0,.slice none 0 0,.slice none 0 0,.slice none 0 0,.slice none 0 0,.slice none 0 0]=w3:=⟨_,rfl⟩
  have HRS3:=hid (show Row w3 (w.heap.size) 28 [.string ⟨#[97]⟩,.int .i64 1,.int .i64 1,.slice (some ⟨w1.heap.size+1,0,none⟩) 1 1,.slice none 0 0,.slice none 0 0,.slice none 0 0,.slice none 0 0,.slice none 0 0,.slice none 0 0] by rw [← hw3];exact Row.setRow HR2.out _)
  have HHZ3:=hid (show w2.heap[w.heap.size]?=some (.cells #[.string ⟨#[]⟩,.int .i64 0,.int .i64 0,.slice none 0 0,.slice none 0 0,.slice none 0 0,.slice none 0 0,.slice none 0 0,.slice none 0 0,.slice none 0 0] 28 (0,0)) from HR2.out)
  have HON3:=hid (show (#[.string ⟨#[97]⟩,.int .i64 1,.int .i64 1,.slice (some ⟨w1.heap.size+1,0,none⟩) 1 1,.slice none 0 0,.slice none 0 0,.slice none 0 0,.slice none 0 0,.slice none 0 0,.slice none 0 0]:Array Value).all (·.oneCell')=true by simp [Value.oneCell'])
  have HSW3:=hid hw3
  have HB3:=hid (show Below w.heap.size w w3 by rw [← hw3];exact setRow_below HB2.out (Nat.le_refl _) _)
  have HS3:=hid (show StV w3 w3.heap.size (.agg #[.string ⟨#[97]⟩,.int .i64 1,.int .i64 1,.slice (some ⟨w1.heap.size+1,0,none⟩) 1 1,.slice none 0 0,.slice none 0 0,.slice none 0 0,.slice none 0 0,.slice none 0 0,.slice none 0 0]) one9 by rw [← hw3];exact (HSV.out.row (Nat.zero_le _) (by omega) _).now)
  have HW0:=hid hw0
  have HW2:=hid hw2
  clear hw0 hw1 hb1 hr0 hsz0 hmk hbw hr1 how hw2 hb2 hk2 hc2 hby hks hcs hw3
  go_enter Tryz.func66,Tryz.ntmps66
  go_wp2_with fail
  rw [HW0.out,hmk0]
  go_wp2_with (first | (refine wpList_store_row rfl 28 (.tmp 0) (.tmp 9) rfl (w.heap.size) #[.string ⟨#[97]⟩,.int .i64 1,.int .i64 1,.slice (some ⟨w1.heap.size+1,0,none⟩) 1 1,.slice none 0 0,.slice none 0 0,.slice none 0 0,.slice none 0 0,.slice none 0 0,.slice none 0 0] rfl rfl 28 #[.string ⟨#[]⟩,.int .i64 0,.int .i64 0,.slice none 0 0,.slice none 0 0,.slice none 0 0,.slice none 0 0,.slice none 0 0,.slice none 0 0,.slice none 0 0] (by rw [HW2.out];exact HHZ3.out) HIZ.out rfl HON3.out ?_;rw [HW2.out,HSW3.out]))
  have y0:=HRS3.out.cell 0
  simp at y0
  have y1:=HRS3.out.cell 1
  simp at y1
  have y2:=HRS3.out.cell 2
  simp at y2
  have y3:=HRS3.out.cell 3
  simp at y3
  have y4:=HRS3.out.cell 4
  simp at y4
  have y5:=HRS3.out.cell 5
  simp at y5
  have y6:=HRS3.out.cell 6
  simp at y6
  have y7:=HRS3.out.cell 7
  simp at y7
  have y8:=HRS3.out.cell 8
  simp at y8
  have y9:=HRS3.out.cell 9
  simp at y9
  exact bodyPost_ret (v:=.agg #[.string ⟨#[97]⟩,.int .i64 1,.int .i64 1,.slice (some ⟨w1.heap.size+1,0,none⟩) 1 1,.slice none 0 0,.slice none 0 0,.slice none 0 0,.slice none 0 0,.slice none 0 0,.slice none 0 0]) (by simp [results,Tryz.results66,go_sem,y0,y1,y2,y3,y4,y5,y6,y7,y8,y9]) rfl ⟨HB3.out,_,rfl,HS3.out⟩
set_option maxRecDepth 100000 in
set_option maxHeartbeats 4000000 in
theorem alive9_any (w:World):Calls Tryz.prog 21 #[] w fun e w'=>e=.returned (.bool true)∧Below w.heap.size w w':=by
  have HIZ:=hid (show (Tryz.prog.info? 28).map (·.size)=some 10 by kernel_rfl)
  go_enter Tryz.func21,Tryz.ntmps21
  go_wp2_with fail
  refine (one9_any w).mono ?_
  rintro e w1 ⟨hb1,v,rfl,hsv⟩
  have HIN:=hid (init_any one9 v w1.heap.size w1 0 3 hsv (Nat.le_refl _) one9_fits)
  rw [one9_init,one9_state,show addI one9 0=0 from rfl] at HIN
  have HB1:=hid hb1
  clear hb1 hsv
  obtain ⟨t,ht⟩:∃ t:St,{ one9 with conns:=[⟨1,0,3,-1⟩] }=t:=⟨_,rfl⟩
  have HTC:=hid (show t.conns=[⟨1,0,3,-1⟩] by rw [← ht])
  rw [ht] at HIN
  clear ht
  go_wp2_with fail
  refine HIN.out.mono ?_
  rintro e w2 ⟨hb2,va,rfl,hva⟩
  obtain ⟨t1,u1,t2,u2,t3,u3,t4,u4,t5,u5,t6,u6,t7,u7,rfl,hm⟩:=hva.now.open
  have HB2:=hid (HB1.out.trans (hb2.mono HB1.out.size))
  have hlen:t.conns.length=1:=by rw [HTC.out];rfl
  obtain ⟨w3,hw3⟩:∃ w3,w2.alloc (.cells #[.string ⟨#[]⟩,.int .i64 0,.int .i64 0,.slice none 0 0,.slice none 0 0,.slice none 0 0,.slice none 0 0,.slice none 0 0,.slice none 0 0,.slice none 0 0] 28)=w3:=⟨_,rfl⟩
  have hb3:Below w2.heap.size w2 w3:=by rw [← hw3];exact (Below.refl _ _).alloc (Nat.le_refl _) _
  have HR3:=hid (show Row w3 w2.heap.size 28 [.string ⟨#[]⟩,.int .i64 0,.int .i64 0,.slice none 0 0,.slice none 0 0,.slice none 0 0,.slice none 0 0,.slice none 0 0,.slice none 0 0,.slice none 0 0] by rw [← hw3];exact Row.new _ _ _)
  have HB3:=hid (HB2.out.trans (hb3.mono HB2.out.size))
  obtain ⟨w4,hw4⟩:∃ w4,w3.setRow (w2.heap.size) #[.string t.name,.int .i64 t.height,.int .i64 t.time,.slice t1 t.clients.length u1,.slice t2 t.conns.length u2,.slice t3 t.chans.length u3,.slice t4 t.sent.length u4,.slice t5 t.got.length u5,.slice t6 t.acks.length u6,.slice t7 t.purses.length u7]=w4:=⟨_,rfl⟩
  have HRS4:=hid (show Row w4 (w2.heap.size) 28 [.string t.name,.int .i64 t.height,.int .i64 t.time,.slice t1 t.clients.length u1,.slice t2 t.conns.length u2,.slice t3 t.chans.length u3,.slice t4 t.sent.length u4,.slice t5 t.got.length u5,.slice t6 t.acks.length u6,.slice t7 t.purses.length u7] by rw [← hw4];exact Row.setRow HR3.out _)
  have HHZ4:=hid (show w3.heap[w2.heap.size]?=some (.cells #[.string ⟨#[]⟩,.int .i64 0,.int .i64 0,.slice none 0 0,.slice none 0 0,.slice none 0 0,.slice none 0 0,.slice none 0 0,.slice none 0 0,.slice none 0 0] 28 (0,0)) from HR3.out)
  have HON4:=hid (show (#[.string t.name,.int .i64 t.height,.int .i64 t.time,.slice t1 t.clients.length u1,.slice t2 t.conns.length u2,.slice t3 t.chans.length u3,.slice t4 t.sent.length u4,.slice t5 t.got.length u5,.slice t6 t.acks.length u6,.slice t7 t.purses.length u7]:Array Value).all (·.oneCell')=true by simp [Value.oneCell'])
  have HSW4:=hid hw4
  have HB4:=hid (show Below w.heap.size w w4 by rw [← hw4];exact setRow_below HB3.out (by have:=HB2.out.size;omega) _)
  have hcells:=hm.conns.spot (by omega)
  obtain ⟨b,f,rfl,gx⟩:=hcells
  obtain ⟨hbN,r,hr,cx⟩:=gx 0 ⟨1,0,3,-1⟩ (by rw [HTC.out];rfl)
  subst hr
  have x2:=cx 2 _ rfl
  simp only [Nat.zero_mul,Nat.add_zero] at x2
  have c4:w4.cell? ⟨w2.heap.size,4,none⟩=some (.slice (some ⟨b,f,none⟩) t.conns.length u2):=HRS4.out.cell 4
  have x2':w4.cell? ⟨b,f+2,none⟩=some (.int .i64 3):=by
    rw [← hw4,cell_setRow_other _ _ _ _ (by simp only;omega),hb3.cell hbN]
    exact x2
  rw [hlen] at c4 HRS4 HON4 HSW4
  have HW3:=hid hw3
  have hz1:(0:Int)<1:=by decide
  rw [hlen]
  clear hb2 hb3 hw3 hw4 hva hm gx cx x2 hlen
  go_wp2_with (first | (first | rw [HW3.out] | skip;refine wpList_store_row rfl 28 (.tmp 1) (.tmp 7) rfl (w2.heap.size) _ rfl rfl 28 #[.string ⟨#[]⟩,.int .i64 0,.int .i64 0,.slice none 0 0,.slice none 0 0,.slice none 0 0,.slice none 0 0,.slice none 0 0,.slice none 0 0,.slice none 0 0] HHZ4.out HIZ.out rfl HON4.out ?_;rw [HSW4.out]))
  go_ret
  exact ⟨rfl,HB4.out⟩
end Go.Proofs.YtooemgkjkngpcaaGreatDoor
