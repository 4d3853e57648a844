/-
  What package state's connVal and chanVal answer.
-/
import Derived.Test.YtbgdpfeobklnhaaGreatDoorcvStKey
namespace Go.Proofs.YtbgdpfeobklnhaaGreatDoor
set_option maxRecDepth 1000000
set_option maxHeartbeats 8000000
open Go.RowKit
theorem Qeh (c:Ch) (hord:c.ordered=true) (h:(1≤c.state∧c.state≤4)∧(0≤c.conn∧c.conn≤1000000000000)∧(-1≤c.ochan∧c.ochan≤1000000000000)) (w:World):Calls Tryz.prog 69 #[.agg #[.int .i64 c.state,.bool true,.int .i64 c.conn,.int .i64 c.ochan,.int .i64 c.send,.int .i64 c.recv,.int .i64 c.ack]] w fun e w'=>∃ v,e=.returned v∧Q9 w' w.heap.size v (JC c)∧Below w.heap.size w w':=by
 obtain ⟨w0,hw0⟩:∃ w0,w.alloc (.cells #[.int .i64 c.state,.bool true,.int .i64 c.conn,.int .i64 c.ochan,.int .i64 c.send,.int .i64 c.recv,.int .i64 c.ack] 54)=w0:=⟨_,rfl⟩
 have hb0:=bof hw0
 have HB0:=hid hb0
 have hr0:=(show Row w0 w.heap.size 54 [.int .i64 c.state,.bool true,.int .i64 c.conn,.int .i64 c.ochan,.int .i64 c.send,.int .i64 c.recv,.int .i64 c.ack] by rw [← hw0];exact Row.new _ _ _)
 have k0:=hr0.cell 0
 have k1:=hr0.cell 1
 have k2:=hr0.cell 2
 have k3:=hr0.cell 3
 have k4:=hr0.cell 4
 have k5:=hr0.cell 5
 have k6:=hr0.cell 6
 have hok:=h
 have hwr:IntKind.i64.wrap (c.ochan+1)=c.ochan+1:=by rw [IntKind.wrap_i64];omega
 obtain ⟨w1,hw1⟩:∃ w1,w0.alloc (.cells #[.int .i64 (c.state),.int .i64 (1),.int .i64 (c.conn),.int .i64 (c.ochan+1)] 3)=w1:=⟨_,rfl⟩
 have hb1:=bof hw1
 have HB1:=hgo HB0 hb1
 have HC:=hid (Qch [c.state,1,c.conn,c.ochan+1] w0.heap.size 4 w1 (by rw [← hw1];exact Row.new _ _ _) rfl (by decide) (fun x hx=>by
  simp only [List.mem_cons,List.not_mem_nil,or_false] at hx
  omega))
 have HW0:=hid hw0
 have HW1:=hid hw1
 clear hr0 hb0 hb1 hw0 hw1 h hok
 go_enter Tryz.func69,Tryz.ntmps69
 go_upto_region 1 with fail
 rw [HW0.out]
 go_wp2_with fail
 rw [HW1.out]
 refine HC.out.mono ?_
 rintro e w2 ⟨v,rfl,hown,hb2⟩
 have HB2:=hgo HB1 hb2
 have HO:=hid (hown.mono HB1.out.size)
 clear hb2 hown
 go_wp2
 go_ret
 exact ⟨_,rfl,by unfold JC;rw [hord];exact HO.out,HB2.out⟩
theorem Qdw (c:Ch) (hord:c.ordered=false) (h:(1≤c.state∧c.state≤4)∧(0≤c.conn∧c.conn≤1000000000000)∧(-1≤c.ochan∧c.ochan≤1000000000000)) (w:World):Calls Tryz.prog 69 #[.agg #[.int .i64 c.state,.bool false,.int .i64 c.conn,.int .i64 c.ochan,.int .i64 c.send,.int .i64 c.recv,.int .i64 c.ack]] w fun e w'=>∃ v,e=.returned v∧Q9 w' w.heap.size v (JC c)∧Below w.heap.size w w':=by
 obtain ⟨w0,hw0⟩:∃ w0,w.alloc (.cells #[.int .i64 c.state,.bool false,.int .i64 c.conn,.int .i64 c.ochan,.int .i64 c.send,.int .i64 c.recv,.int .i64 c.ack] 54)=w0:=⟨_,rfl⟩
 have hb0:=bof hw0
 have HB0:=hid hb0
 have hr0:=(show Row w0 w.heap.size 54 [.int .i64 c.state,.bool false,.int .i64 c.conn,.int .i64 c.ochan,.int .i64 c.send,.int .i64 c.recv,.int .i64 c.ack] by rw [← hw0];exact Row.new _ _ _)
 have k0:=hr0.cell 0
 have k1:=hr0.cell 1
 have k2:=hr0.cell 2
 have k3:=hr0.cell 3
 have k4:=hr0.cell 4
 have k5:=hr0.cell 5
 have k6:=hr0.cell 6
 have hok:=h
 have hwr:IntKind.i64.wrap (c.ochan+1)=c.ochan+1:=by rw [IntKind.wrap_i64];omega
 obtain ⟨w1,hw1⟩:∃ w1,w0.alloc (.cells #[.int .i64 (c.state),.int .i64 (0),.int .i64 (c.conn),.int .i64 (c.ochan+1)] 3)=w1:=⟨_,rfl⟩
 have hb1:=bof hw1
 have HB1:=hgo HB0 hb1
 have HC:=hid (Qch [c.state,0,c.conn,c.ochan+1] w0.heap.size 4 w1 (by rw [← hw1];exact Row.new _ _ _) rfl (by decide) (fun x hx=>by
  simp only [List.mem_cons,List.not_mem_nil,or_false] at hx
  omega))
 have HW0:=hid hw0
 have HW1:=hid hw1
 clear hr0 hb0 hb1 hw0 hw1 h hok
 go_enter Tryz.func69,Tryz.ntmps69
 go_upto_region 1 with fail
 rw [HW0.out]
 go_wp2_with fail
 rw [HW1.out]
 refine HC.out.mono ?_
 rintro e w2 ⟨v,rfl,hown,hb2⟩
 have HB2:=hgo HB1 hb2
 have HO:=hid (hown.mono HB1.out.size)
 clear hb2 hown
 go_wp2
 go_ret
 exact ⟨_,rfl,by unfold JC;rw [hord];exact HO.out,HB2.out⟩
theorem QfS (c:Ch) (h:(1≤c.state∧c.state≤4)∧(0≤c.conn∧c.conn≤1000000000000)∧(-1≤c.ochan∧c.ochan≤1000000000000)) (w:World):Calls Tryz.prog 69 #[.agg #[.int .i64 c.state,.bool c.ordered,.int .i64 c.conn,.int .i64 c.ochan,.int .i64 c.send,.int .i64 c.recv,.int .i64 c.ack]] w fun e w'=>∃ v,e=.returned v∧Q9 w' w.heap.size v (JC c)∧Below w.heap.size w w':=by
 cases ho:c.ordered with
 | true=>exact Qeh c ho h w
 | false=>exact Qdw c ho h w
theorem QeP (k:Int) (hk:0≤k∧k≤1000000000000) (w:World) (htab:YB w):Calls Tryz.prog 68 #[.int .i64 k] w fun e w'=>∃ v,e=.returned v∧Q9 w' w.heap.size v (Zd Yy [k.toNat])∧Below w.heap.size w w':=by
 obtain ⟨w0,hw0⟩:∃ w0,w.alloc (.cells #[.int .i64 k] 3)=w0:=⟨_,rfl⟩
 have hb0:=bof hw0
 have HB0:=hid hb0
 have HK:=hid (Qhy ⟨#[99,104,97,110]⟩ [k] w.heap.size 1 w0 (by decide) (by rw [← hw0];exact Row.new _ _ _) rfl (by decide) (fun n hn=>by simp at hn;omega) (htab.below hb0))
 have HW0:=hid hw0
 clear hb0 hw0 htab
 go_enter Tryz.func68,Tryz.ntmps68
 go_wp2_with fail
 rw [HW0.out]
 refine HK.out.mono ?_
 rintro e w1 ⟨v,rfl,ho,hb⟩
 have HO:=hid ho
 have HB:=hid hb
 clear ho hb
 go_wp2
 go_ret
 exact ⟨v,rfl,HO.out.mono HB0.out.size,HB0.out.trans (HB.out.mono HB0.out.size)⟩
end Go.Proofs.YtbgdpfeobklnhaaGreatDoor
