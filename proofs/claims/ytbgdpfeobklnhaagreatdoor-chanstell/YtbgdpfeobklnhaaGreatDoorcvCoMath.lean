/-
  What comes of the steps of a connection.
-/
import Derived.Test.YtbgdpfeobklnhaaGreatDoorcvStOwn
import Derived.Test.YtbgdpfeobklnhaaGreatDoorcvSameB
import Derived.Test.YtbgdpfeobklnhaaGreatDoorcvClAsk
import Derived.Test.YtbgdpfeobklnhaaGreatDoorcvRegions
import Derived.Test.YtbgdpfeobklnhaaGreatDoorcvClShown
import Derived.Lib.SliceRun
import Derived.Laws.CopyOwn
namespace Go.Proofs.YtbgdpfeobklnhaaGreatDoor
set_option maxRecDepth 1000000
set_option maxHeartbeats 8000000
open Go.RowKit
theorem Z6 {w:World} {N k n c:Nat} {rs:List (List Value)} (h:JF w N (.slice none n c) k rs):rs=[]∧n=0∧c=0:=by
 rcases h with ⟨h1,h2⟩ | ⟨a,c,h1,_⟩ | ⟨b,o,c,h1,_⟩
 ·simp at h1;exact ⟨h2,h1⟩
 ·simp at h1
 ·simp at h1
theorem QiJ:Qec 72 22 4:=QbI (z:=.agg #[.string ⟨#[]⟩,.int .i64 0,.bool false,.slice none 0 0]) (B:=56) Tryz.underlying22 (by kernel_rfl) rfl (by decide) (by decide)
theorem Qjk (rs:List (List Value)) (v:Value) (N:Nat) (w:World) (h:JF w N v 4 rs) (hN:N≤w.heap.size) (hok:∀ r∈rs,r.length=4∧∀ x∈r,x.oneCell'=true) (hl:rs.length≤1000) :
  Calls Tryz.prog 79 #[v] w fun e w'=>Below w.heap.size w w'∧∃ v',e=.returned v'∧Qs 72 4 w' w.heap.size v' rs:=by
 have q:∀ (w:World) (a:Option Addr) (n c n' c':Nat),(binOp .eql 22 (.slice a n c) (.slice none n' c')).run Tryz.prog w=.ok (.bool a.isNone) w:=fun w a n c n' c'=>Lib.run_eql_slice_nil w _ _ a n c n' c' Tryz.underlying22
 obtain ⟨oa,ca,rfl,hca⟩:=h.shape
 cases oa with
 | none =>
  obtain ⟨rfl,-,rfl⟩:=Z6 h
  go_enter Tryz.func79,Tryz.ntmps79
  go_wp2
  go_ret
  exact ⟨Below.refl _ _,_,rfl,fun _ h=>(by cases h),World.ownsRow_nil _ _ _ _⟩
 | some a =>
  obtain ⟨w1,hw1⟩:∃ w1,w.alloc (.cells #[] 72)=w1:=⟨_,rfl⟩
  have hb1:=bof hw1
  have HO:=hid (show Qs 72 4 w1 w.heap.size (.slice (some ⟨w.heap.size,0,none⟩) 0 0) [] by rw [← hw1];exact Qs.made w _ (Nat.le_refl _))
  have HS:=hid (h.below (hb1.mono hN))
  have HB:=hid hb1
  have HOK:=hid hok
  have hbs:=hb1.size
  have HW1:=hid hw1
  clear h hok hb1 hw1
  generalize hn:rs.length=n at *
  have HN:=hid hn
  clear hn
  go_enter Tryz.func79,Tryz.ntmps79
  go_wp2_with (at_builtin;rw [HW1.out];refine QW QiJ rfl _ _ rfl w.heap.size _ [] rfl HO.out _ rs rfl HS.out HOK.out (by rw [HN.out];simp;omega) hbs ?_)
  intro v' w2 hrow hb2 hg2
  have HR2:=hid hrow
  have HB2:=hid (HB.out.trans hb2)
  clear hrow hb2 hg2
  go_wp2
  go_ret
  exact ⟨HB2.out,v',rfl,by simpa using HR2.out⟩
theorem QiK:Qec 60 23 4:=QbI (z:=.agg #[.int .i64 0,.int .i64 0,.int .i64 0,.int .i64 0]) (B:=32) Tryz.underlying23 (by kernel_rfl) rfl (by decide) (by decide)
theorem Qjl (rs:List (List Value)) (v:Value) (N:Nat) (w:World) (h:JF w N v 4 rs) (hN:N≤w.heap.size) (hok:∀ r∈rs,r.length=4∧∀ x∈r,x.oneCell'=true) (hl:rs.length≤1000) :
  Calls Tryz.prog 81 #[v] w fun e w'=>Below w.heap.size w w'∧∃ v',e=.returned v'∧Qs 60 4 w' w.heap.size v' rs:=by
 have q:∀ (w:World) (a:Option Addr) (n c n' c':Nat),(binOp .eql 23 (.slice a n c) (.slice none n' c')).run Tryz.prog w=.ok (.bool a.isNone) w:=fun w a n c n' c'=>Lib.run_eql_slice_nil w _ _ a n c n' c' Tryz.underlying23
 obtain ⟨oa,ca,rfl,hca⟩:=h.shape
 cases oa with
 | none =>
  obtain ⟨rfl,-,rfl⟩:=Z6 h
  go_enter Tryz.func81,Tryz.ntmps81
  go_wp2
  go_ret
  exact ⟨Below.refl _ _,_,rfl,fun _ h=>(by cases h),World.ownsRow_nil _ _ _ _⟩
 | some a =>
  obtain ⟨w1,hw1⟩:∃ w1,w.alloc (.cells #[] 60)=w1:=⟨_,rfl⟩
  have hb1:=bof hw1
  have HO:=hid (show Qs 60 4 w1 w.heap.size (.slice (some ⟨w.heap.size,0,none⟩) 0 0) [] by rw [← hw1];exact Qs.made w _ (Nat.le_refl _))
  have HS:=hid (h.below (hb1.mono hN))
  have HB:=hid hb1
  have HOK:=hid hok
  have hbs:=hb1.size
  have HW1:=hid hw1
  clear h hok hb1 hw1
  generalize hn:rs.length=n at *
  have HN:=hid hn
  clear hn
  go_enter Tryz.func81,Tryz.ntmps81
  go_wp2_with (at_builtin;rw [HW1.out];refine QW QiK rfl _ _ rfl w.heap.size _ [] rfl HO.out _ rs rfl HS.out HOK.out (by rw [HN.out];simp;omega) hbs ?_)
  intro v' w2 hrow hb2 hg2
  have HR2:=hid hrow
  have HB2:=hid (HB.out.trans hb2)
  clear hrow hb2 hg2
  go_wp2
  go_ret
  exact ⟨HB2.out,v',rfl,by simpa using HR2.out⟩
theorem Qc7:Qec 54 24 7:=QbI (z:=.agg #[.int .i64 0,.bool false,.int .i64 0,.int .i64 0,.int .i64 0,.int .i64 0,.int .i64 0]) (B:=56) Tryz.underlying24 (by kernel_rfl) rfl (by decide) (by decide)
theorem Qjj (rs:List (List Value)) (v:Value) (N:Nat) (w:World) (h:JF w N v 7 rs) (hN:N≤w.heap.size) (hok:∀ r∈rs,r.length=7∧∀ x∈r,x.oneCell'=true) (hl:rs.length≤1000) :
  Calls Tryz.prog 82 #[v] w fun e w'=>Below w.heap.size w w'∧∃ v',e=.returned v'∧Qs 54 7 w' w.heap.size v' rs:=by
 have q:∀ (w:World) (a:Option Addr) (n c n' c':Nat),(binOp .eql 24 (.slice a n c) (.slice none n' c')).run Tryz.prog w=.ok (.bool a.isNone) w:=fun w a n c n' c'=>Lib.run_eql_slice_nil w _ _ a n c n' c' Tryz.underlying24
 obtain ⟨oa,ca,rfl,hca⟩:=h.shape
 cases oa with
 | none =>
  obtain ⟨rfl,-,rfl⟩:=Z6 h
  go_enter Tryz.func82,Tryz.ntmps82
  go_wp2
  go_ret
  exact ⟨Below.refl _ _,_,rfl,fun _ h=>(by cases h),World.ownsRow_nil _ _ _ _⟩
 | some a =>
  obtain ⟨w1,hw1⟩:∃ w1,w.alloc (.cells #[] 54)=w1:=⟨_,rfl⟩
  have hb1:=bof hw1
  have HO:=hid (show Qs 54 7 w1 w.heap.size (.slice (some ⟨w.heap.size,0,none⟩) 0 0) [] by rw [← hw1];exact Qs.made w _ (Nat.le_refl _))
  have HS:=hid (h.below (hb1.mono hN))
  have HB:=hid hb1
  have HOK:=hid hok
  have hbs:=hb1.size
  have HW1:=hid hw1
  clear h hok hb1 hw1
  generalize hn:rs.length=n at *
  have HN:=hid hn
  clear hn
  go_enter Tryz.func82,Tryz.ntmps82
  go_wp2_with (at_builtin;rw [HW1.out];refine QW Qc7 rfl _ _ rfl w.heap.size _ [] rfl HO.out _ rs rfl HS.out HOK.out (by rw [HN.out];simp;omega) hbs ?_)
  intro v' w2 hrow hb2 hg2
  have HR2:=hid hrow
  have HB2:=hid (HB.out.trans hb2)
  clear hrow hb2 hg2
  go_wp2
  go_ret
  exact ⟨HB2.out,v',rfl,by simpa using HR2.out⟩
theorem Qke:Qec 93 25 3:=QbI (z:=.agg #[.int .i64 0,.int .i64 0,.slice none 0 0]) (B:=40) Tryz.underlying25 (by kernel_rfl) rfl (by decide) (by decide)
theorem Qjm (rs:List (List Value)) (v:Value) (N:Nat) (w:World) (h:JF w N v 3 rs) (hN:N≤w.heap.size) (hok:∀ r∈rs,r.length=3∧∀ x∈r,x.oneCell'=true) (hl:rs.length≤1000) :
  Calls Tryz.prog 102 #[v] w fun e w'=>Below w.heap.size w w'∧∃ v',e=.returned v'∧Qs 93 3 w' w.heap.size v' rs:=by
 have q:∀ (w:World) (a:Option Addr) (n c n' c':Nat),(binOp .eql 25 (.slice a n c) (.slice none n' c')).run Tryz.prog w=.ok (.bool a.isNone) w:=fun w a n c n' c'=>Lib.run_eql_slice_nil w _ _ a n c n' c' Tryz.underlying25
 obtain ⟨oa,ca,rfl,hca⟩:=h.shape
 cases oa with
 | none =>
  obtain ⟨rfl,-,rfl⟩:=Z6 h
  go_enter Tryz.func102,Tryz.ntmps102
  go_wp2
  go_ret
  exact ⟨Below.refl _ _,_,rfl,fun _ h=>(by cases h),World.ownsRow_nil _ _ _ _⟩
 | some a =>
  obtain ⟨w1,hw1⟩:∃ w1,w.alloc (.cells #[] 93)=w1:=⟨_,rfl⟩
  have hb1:=bof hw1
  have HO:=hid (show Qs 93 3 w1 w.heap.size (.slice (some ⟨w.heap.size,0,none⟩) 0 0) [] by rw [← hw1];exact Qs.made w _ (Nat.le_refl _))
  have HS:=hid (h.below (hb1.mono hN))
  have HB:=hid hb1
  have HOK:=hid hok
  have hbs:=hb1.size
  have HW1:=hid hw1
  clear h hok hb1 hw1
  generalize hn:rs.length=n at *
  have HN:=hid hn
  clear hn
  go_enter Tryz.func102,Tryz.ntmps102
  go_wp2_with (at_builtin;rw [HW1.out];refine QW Qke rfl _ _ rfl w.heap.size _ [] rfl HO.out _ rs rfl HS.out HOK.out (by rw [HN.out];simp;omega) hbs ?_)
  intro v' w2 hrow hb2 hg2
  have HR2:=hid hrow
  have HB2:=hid (HB.out.trans hb2)
  clear hrow hb2 hg2
  go_wp2
  go_ret
  exact ⟨HB2.out,v',rfl,by simpa using HR2.out⟩
theorem QiL:Qec 75 26 3:=QbI (z:=.agg #[.string ⟨#[]⟩,.string ⟨#[]⟩,.int .u64 0]) (B:=40) Tryz.underlying26 (by kernel_rfl) rfl (by decide) (by decide)
theorem Qjn (rs:List (List Value)) (v:Value) (N:Nat) (w:World) (h:JF w N v 3 rs) (hN:N≤w.heap.size) (hok:∀ r∈rs,r.length=3∧∀ x∈r,x.oneCell'=true) (hl:rs.length≤1000) :
  Calls Tryz.prog 83 #[v] w fun e w'=>Below w.heap.size w w'∧∃ v',e=.returned v'∧Qs 75 3 w' w.heap.size v' rs:=by
 have q:∀ (w:World) (a:Option Addr) (n c n' c':Nat),(binOp .eql 26 (.slice a n c) (.slice none n' c')).run Tryz.prog w=.ok (.bool a.isNone) w:=fun w a n c n' c'=>Lib.run_eql_slice_nil w _ _ a n c n' c' Tryz.underlying26
 obtain ⟨oa,ca,rfl,hca⟩:=h.shape
 cases oa with
 | none =>
  obtain ⟨rfl,-,rfl⟩:=Z6 h
  go_enter Tryz.func83,Tryz.ntmps83
  go_wp2
  go_ret
  exact ⟨Below.refl _ _,_,rfl,fun _ h=>(by cases h),World.ownsRow_nil _ _ _ _⟩
 | some a =>
  obtain ⟨w1,hw1⟩:∃ w1,w.alloc (.cells #[] 75)=w1:=⟨_,rfl⟩
  have hb1:=bof hw1
  have HO:=hid (show Qs 75 3 w1 w.heap.size (.slice (some ⟨w.heap.size,0,none⟩) 0 0) [] by rw [← hw1];exact Qs.made w _ (Nat.le_refl _))
  have HS:=hid (h.below (hb1.mono hN))
  have HB:=hid hb1
  have HOK:=hid hok
  have hbs:=hb1.size
  have HW1:=hid hw1
  clear h hok hb1 hw1
  generalize hn:rs.length=n at *
  have HN:=hid hn
  clear hn
  go_enter Tryz.func83,Tryz.ntmps83
  go_wp2_with (at_builtin;rw [HW1.out];refine QW QiL rfl _ _ rfl w.heap.size _ [] rfl HO.out _ rs rfl HS.out HOK.out (by rw [HN.out];simp;omega) hbs ?_)
  intro v' w2 hrow hb2 hg2
  have HR2:=hid hrow
  have HB2:=hid (HB.out.trans hb2)
  clear hrow hb2 hg2
  go_wp2
  go_ret
  exact ⟨HB2.out,v',rfl,by simpa using HR2.out⟩
theorem Qaj {w w':World} {base e k n:Nat} {v:Value} {xs:List Value} (h:w.ownsRow base e k v n xs) (hk:∀ g,v.ownBlock=some g→w'.heap[g]?=w.heap[g]?):w'.ownsRow base e k v n xs:=by
 obtain ⟨h1,h2⟩:=h
 refine ⟨h1,?_⟩
 rcases h2 with h2 | ⟨g,cap,cur,h3,h4,h5,h6⟩
 ·exact .inl h2
 ·exact .inr ⟨g,cap,cur,h3,h4,(hk g (by rw [h3];rfl)).trans h5,h6⟩
theorem Qq.held {w:World} {base:Nat} {v:Value} {l:List (BitVec 8)} (h:Qq w base v l):QL (fun b=>base≤b∧b<w.heap.size) w (fun w2=>Bytes w2 w2.heap.size v l) :=
 ⟨fun _ hb=>hb.2,fun w2 _ hk=>Qq.bytes (show Qq w2 base v l from Qaj h fun g hg=>hk g (World.ownsRow.lt h g hg))⟩
theorem JH.held {w:World} {base:Nat} {v:Value} {ps:List KnR} (h:JH w base v ps):QL (fun b=>base≤b∧b<w.heap.size) w (fun w2=>Js w2 w2.heap.size v (ps.map (·.k))) :=
 ⟨fun _ hb=>hb.2,fun _ _ hk=>JH.knowns (base:=base) ⟨⟨h.1.1,Qaj h.1.2 fun g hg=>hk g (World.ownsRow.lt h.1.2 g hg)⟩,fun q hq=>⟨Qaj (h.2 q hq).1 fun g hg=>hk g (World.ownsRow.lt (h.2 q hq).1 g hg),Qaj (h.2 q hq).2 fun g hg=>hk g (World.ownsRow.lt (h.2 q hq).2 g hg)⟩⟩⟩
theorem Jt.at {α:Type} {t:TypeId} {R:World→Nat→List Value→α→Prop} {K N base:Nat} {w:World} {oa:Option Addr} {n c:Nat} {l:List α} {i:Nat} {x:α} (h:Jt t R K N base w (.slice oa n c) l) (hx:l[i]?=some x) :
  ∃ g rs r,oa=some ⟨g,0,none⟩∧base≤g∧g<w.heap.size∧rs.length=l.length∧Qs t K w base (.slice (some ⟨g,0,none⟩) n c) rs∧rs[i]?=some r∧R w w.heap.size r x ∧
   (∀ (j:Nat) r y,rs[j]?=some r→l[j]?=some y→QL (fun b=>b≠g∧(b<N∨base≤b)∧b<w.heap.size) w (fun w2=>R w2 w2.heap.size r y)) ∧
   (∀ (j:Nat) y,r[j]?=some y→w.cell? ⟨g,i*K+j,none⟩=some y)∧∀ o,w.frozen? ⟨g,o,none⟩=false:=by
 obtain ⟨rs,h1,h2,h3⟩:=h
 have hil:i<rs.length:=by rw [h1];exact (List.getElem?_eq_some_iff.1 hx).1
 obtain ⟨r,hr⟩:∃ r,rs[i]?=some r:=⟨_,List.getElem?_eq_getElem hil⟩
 have h2':=h2
 obtain ⟨h4,_,h5⟩:=h2
 rcases h5 with ⟨h6,h7⟩ | ⟨g,cap,cur,h6,h7,h8,h9⟩
 ·omega
 ·simp only [Value.slice.injEq] at h6
  obtain ⟨rfl,rfl,rfl⟩:=h6
  have hrow:Row w g t cur.toList:=by unfold Row;simpa using h8
  have hrec:=h2'.recs
  obtain ⟨b,off,e,hc⟩:=hrec.spot (by omega)
  simp only [Option.some.injEq,Addr.mk.injEq] at e
  obtain ⟨rfl,rfl,-⟩:=e
  refine ⟨g,rs,r,rfl,h7,hrow.lt,h1,h2',hr,(h3 i r x hr hx).now,fun j r y hr hy=>(h3 j r y hr hy).wide (fun b hF=>⟨fun e=>hF.1 (by rw [e];rfl),hF.2⟩) (fun b hF=>hF.2.2),fun j y hy=>?_,fun o=>hrow.frozen o⟩
  have:=(hc i r hr).2 j y hy
  rw [Nat.zero_add] at this
  exact this
theorem Y2 (l:List Mk) (v:Value) (N:Nat) (w:World) (h:QB MkR 3 w N v l) (hN:N≤w.heap.size) (hl:l.length≤1000) (hf:∀ m∈l,m.fits) :
  Calls Tryz.prog 84 #[v] w fun e w'=>Below w.heap.size w w'∧∃ v',e=.returned v'∧QL (fun b=>(b<N∨w.heap.size≤b)∧b<w'.heap.size) w' (fun w2=>QB MkR 3 w2 w2.heap.size v' l):=by
 obtain ⟨rs,h1,h2,h3⟩:=h
 have hok:∀ r∈rs,r.length=3∧∀ x∈r,x.oneCell'=true:=fun r hr=>by
  obtain ⟨i,hi⟩:=List.getElem?_of_mem hr
  have hil:=(List.getElem?_eq_some_iff.1 hi).1
  obtain ⟨dv,rfl,hd⟩:=h3 i r (l[i]'(by omega)) hi (List.getElem?_eq_getElem _)
  obtain ⟨od,cd,rfl,-⟩:=hd.shape
  exact ⟨rfl,fun x hx=>by simp at hx;rcases hx with rfl | rfl | rfl <;> rfl⟩
 have HCL:=hid (Qjm rs v N w h2 hN hok (by omega))
 have HNEW:=hid (show ∀ w1 v1,Below w.heap.size w w1→Qs 93 3 w1 w.heap.size v1 rs→Jt 93 MkR 3 N w.heap.size w1 v1 l from fun w1 v1 hb hr=>Jt.new MkR.stays h1 hr h3 hN hN hb)
 have HF:=hid hf
 clear h1 h2 h3 hok hf
 go_enter Tryz.func84,Tryz.ntmps84
 go_wp2_with fail
 refine HCL.out.mono ?_
 rintro e w1 ⟨hb1,v1,rfl,hrow⟩
 have HRH:=hid (HNEW.out _ _ hb1 hrow)
 have HB1:=hid hb1
 obtain ⟨oa,ca,rfl,-⟩:=HRH.out.shape
 clear hb1 hrow
 generalize hn:l.length=n at *
 have HN:=hid hn
 clear hn
 go_wp2_with fail
 go_loopw [10] (fun i wr=>∃ k:Nat,k≤n∧i=.int .i64 (k:Int)∧Hid (Jt 93 MkR 3 N w.heap.size wr (.slice oa n ca) l∧Below w.heap.size w wr)) (fun i _=>n-(intOf i).toNat)
 case atStart=>exact ⟨0,by omega,rfl,hid ⟨HRH.out,HB1.out⟩⟩
 case round =>
  obtain ⟨k,hk,rfl,HT⟩:=hrel
  have HRW:=hid HT.out.1
  have HBW:=hid HT.out.2
  have hszw:=HBW.out.size
  clear HT
  by_cases hlt:k<n
  ·obtain ⟨x,hx⟩:∃ x,l[k]?=some x:=⟨l[k]'(by rw [HN.out];exact hlt),List.getElem?_eq_getElem _⟩
   have hlt':(k:Int)<(n:Int):=by omega
   obtain ⟨g,rq,r,rfl,hgb,hgl,hq1,hq2,hq3,hq4,hq5,hc,hfz⟩:=HRW.out.at hx
   obtain ⟨dv,rfl,hdv⟩:=hq4
   obtain ⟨od,cd,rfl,-⟩:=hdv.shape
   have f0:=hc 0 _ rfl
   have f1:=hc 1 _ rfl
   have f2:=hc 2 _ rfl
   simp only [Nat.add_zero] at f0
   obtain ⟨w2,hw2⟩:∃ w2,wr.alloc (.cells #[.int .i64 x.chan,.int .i64 x.seq,.slice od x.dig.length cd] 93)=w2:=⟨_,rfl⟩
   have hb2:=bof hw2
   have HB2:=hid hb2
   have hr2:Row w2 wr.heap.size 93 [.int .i64 x.chan,.int .i64 x.seq,.slice od x.dig.length cd]:=by rw [← hw2];exact Row.new _ _ _
   have b2:w2.cell? ⟨wr.heap.size,2,none⟩=some (.slice od x.dig.length cd):=hr2.cell 2
   have HCB:=hid (Qbe x.dig (.slice od x.dig.length cd) wr.heap.size w2 (hdv.below hb2) (HF.out x (List.mem_of_getElem? hx)))
   have HQ2:=hid hq2
   have HQ5:=hid hq5
   have HQ1:=hid hq1
   have HQ3:=hid hq3
   have HX:=hid hx
   have HW2:=hid hw2
   have HC2:=hid (show wr.cell? ⟨g,k*3+2,none⟩=some (.slice od x.dig.length cd) from f2)
   have HFZ:=hid (show wr.frozen? ⟨g,k*3+2,none⟩=false from hfz _)
   have hgw:g<w2.heap.size:=Nat.lt_of_lt_of_le hgl hb2.size
   clear hb2 hr2 hdv hq1 hq2 hq3 hq5 hx hc hfz hw2
   go_upto_region 5 with fail
   rw [HW2.out]
   clear f0 f1 f2
   go_wp2_with fail
   refine HCB.out.mono ?_
   rintro e w3 ⟨hb3,v3,rfl,hown⟩
   obtain ⟨o3,c3,rfl,-⟩:=hown.shape
   have hbx:Below wr.heap.size wr w3:=HB2.out.trans (hb3.mono HB2.out.size)
   have HBX:=hid hbx
   have g2:w3.cell? ⟨g,k*3+2,none⟩=some (.slice od x.dig.length cd):=(hbx.cell hgl).trans HC2.out
   have gz:w3.frozen? ⟨g,k*3+2,none⟩=false:=(World.frozen?_of_block (hbx.block g hgl)).trans HFZ.out
   have HOW:=hid (show QL (fun b=>b≠g∧(b<N∨w.heap.size≤b)∧b<w3.heap.size) w3 (fun wz=>MkR wz wz.heap.size [.int .i64 x.chan,.int .i64 x.seq,.slice o3 x.dig.length c3] x) from
    ⟨fun b hb=>hb.2.2,fun wz hz hk=>⟨_,rfl,hown.held.2 wz hz fun b hF=>hk b ⟨by omega,.inr (by have:=HB2.out.size;omega),hF.2⟩⟩⟩)
   have hgs:w3.grownBy (w3.setCell ⟨g,k*3+2,none⟩ (.slice o3 x.dig.length c3)) (some g):=Zs w3 g (k*3+2) [.slice o3 x.dig.length c3]
   have hput:=(HQ2.out.below hbx).putCell (j:=2) (x:=.slice o3 x.dig.length c3) HQ3.out (by decide) rfl
   have HNR:=hid (Jt.put (t:=93) (R:=MkR) (k:=3) (N:=N) (base:=w.heap.size) (n:=n) (c:=ca) HQ1.out (fun j r y hr hy=>((HQ5.out j r y hr hy).below hbx).wide (fun b hF=>⟨hF.1,hF.2.1,Nat.lt_of_lt_of_le hF.2.2 hbx.size⟩) (fun b hF=>hF.2.2)) HX.out HOW.out hgs hput)
   have HNB:=hid (show Below w.heap.size w (w3.setCell ⟨g,k*3+2,none⟩ (.slice o3 x.dig.length c3)) from (HBW.out.trans (hbx.mono hszw)).setCell hgb _)
   clear hb3 hown hbx hgs hput HOW HQ2 HQ5 HQ1 HQ3 HX HC2 HFZ b2
   go_wp2
   go_roundw
   case rel=>exact ⟨k+1,by omega,by go_num,hid ⟨HNR.out,HNB.out⟩⟩
   case measure=>simp [intOf];omega
  ·have hge:decide ((k:Int)<(n:Int))=false:=by simp;omega
   go_wp2
   go_ret
   exact ⟨HBW.out,_,rfl,HRW.out.held⟩
def few (s:St):Prop:=s.clients.length≤100∧s.conns.length≤100∧s.chans.length≤100∧s.sent.length≤100∧s.got.length≤100∧s.acks.length≤100∧s.purses.length≤100∧∀ c∈s.clients,c.known.length≤1000
structure QeH (s:St):Prop where
 sent:∀ m∈s.sent,m.fits
 got:∀ m∈s.got,m.fits
 acks:∀ m∈s.acks,m.fits
theorem QcM {l:List Cn}:∀ r∈l.map Je,r.length=4∧∀ x∈r,x.oneCell'=true:=fun r hr=>by
 obtain ⟨c,_,rfl⟩:=List.mem_map.1 hr
 refine ⟨rfl,fun x hx=>?_⟩
 simp [Je] at hx
 rcases hx with rfl | rfl | rfl | rfl <;> rfl
theorem YJ {l:List Ch}:∀ r∈l.map Qh,r.length=7∧∀ x∈r,x.oneCell'=true:=fun r hr=>by
 obtain ⟨c,_,rfl⟩:=List.mem_map.1 hr
 refine ⟨rfl,fun x hx=>?_⟩
 simp [Qh] at hx
 rcases hx with rfl | rfl | rfl | rfl | rfl | rfl | rfl <;> rfl
theorem Qc6 {l:List Pu}:∀ r∈l.map Jy,r.length=3∧∀ x∈r,x.oneCell'=true:=fun r hr=>by
 obtain ⟨c,_,rfl⟩:=List.mem_map.1 hr
 refine ⟨rfl,fun x hx=>?_⟩
 simp [Jy] at hx
 rcases hx with rfl | rfl | rfl <;> rfl
def QjL (f:FuncId):Prop:=∀ (s:St) (v:Value) (N:Nat) (w:World),StV w N v s→N≤w.heap.size→s.fits→few s →
 Calls Tryz.prog f #[v] w fun e w'=>Below w.heap.size w w'∧∃ p1 d1 p2 d2 p3 d3 p4 d4 p5 d5 p6 d6 p7 d7,e=.returned (.agg #[.string s.name,.int .i64 s.height,.int .i64 s.time,.slice p1 s.clients.length d1,.slice p2 s.conns.length d2,.slice p3 s.chans.length d3,.slice p4 s.sent.length d4,.slice p5 s.got.length d5,.slice p6 s.acks.length d6,.slice p7 s.purses.length d7])∧Q7 N w.heap.size w' s (.slice p1 s.clients.length d1) (.slice p2 s.conns.length d2) (.slice p3 s.chans.length d3) (.slice p4 s.sent.length d4) (.slice p5 s.got.length d5) (.slice p6 s.acks.length d6) (.slice p7 s.purses.length d7)
theorem Qj4 {y0 y2 y5 y6 y7 y8 y9 A0 A1 A2 A3 A4 A5 A6 A7 A8 A9 Aa Ab Ac Ad Ae Af Ag Ah Ai Aj Ak Al Am An Ao Ap Aq Ar As At Au Av Aw Ax Ay Az AA AB AC:Value} {gs gc N:Nat} (s:St) (x:Cl) (k n g ca ma:Nat) (ka:Option Addr) (o2 o3 o4 o5 o6 o7:Option Addr) (c2 c3 c4 c5 c6 c7:Nat) {w:World} (hN:N≤w.heap.size) (hrs:Hid (Row w gs 28 [.string s.name,.int .i64 s.height,.int .i64 s.time,.slice (some ⟨g,0,none⟩) n ca,.slice o2 s.conns.length c2,.slice o3 s.chans.length c3,.slice o4 s.sent.length c4,.slice o5 s.got.length c5,.slice o6 s.acks.length c6,.slice o7 s.purses.length c7])) (hrc:Hid (Row w gc 72 [.string x.chain,.int .i64 x.trust,.bool x.frozen,.slice ka x.known.length ma])) (_hlt:(k:Int)<(n:Int)) (hgl:g<w.heap.size) (hcg:Hid (w.cell? ⟨g,k*4,none⟩=some (.string x.chain)∧w.cell? ⟨g,k*4+1,none⟩=some (.int .i64 x.trust)∧w.cell? ⟨g,k*4+2,none⟩=some (.bool x.frozen)∧w.cell? ⟨g,k*4+3,none⟩=some (.slice ka x.known.length ma))) (hfz:Hid (∀ o,w.frozen? ⟨g,o,none⟩=false)) (hcv:Hid (ClV w N (.agg #[.string x.chain,.int .i64 x.trust,.bool x.frozen,.slice ka x.known.length ma]) x)) (hcf:Hid x.fits) (hkn:x.known.length≤1000) (Q:Exit→Act→World→Prop)
  (hQ:Hid (∀ (σ:Nat→Value) (o:Option Addr) (m:Nat) (ps:List KnR) (w2:World),Below w.heap.size w w2→JH w2 w.heap.size (.slice o ps.length m) ps→ps.map (·.k)=x.known→Q .normal ⟨#[y0,.pointer (some ⟨gs,0,none⟩),y2,.int .i64 (k:Int),.pointer (some ⟨gc,0,none⟩),y5,y6,y7,y8,y9,A0,A1,A2,A3,A4,A5,A6,σ 0,σ 1,σ 2,σ 3,.agg #[.string x.chain,.int .i64 x.trust,.bool x.frozen,.slice o ps.length m],.pointer (some ⟨g,k*4,none⟩),A7,A8,A9,Aa,Ab,Ac,Ad,Ae,Af,Ag,Ah,Ai,Aj,Ak,Al,Am,An,Ao,Ap,Aq,Ar,As,At,Au,Av,Aw],[]⟩ (w2.setCells g (k*4) [.string x.chain,.int .i64 x.trust,.bool x.frozen,.slice o ps.length m]))) :
  Code.wp Tryz.prog (.region 5 ((Tryz.f57.body.bind (Q3 5)).getD #[]) true) Q ⟨#[y0,.pointer (some ⟨gs,0,none⟩),y2,.int .i64 (k:Int),.pointer (some ⟨gc,0,none⟩),y5,y6,y7,y8,y9,A0,A1,A2,A3,A4,A5,A6,Ax,Ay,Az,AA,AB,AC,A7,A8,A9,Aa,Ab,Ac,Ad,Ae,Af,Ag,Ah,Ai,Aj,Ak,Al,Am,An,Ao,Ap,Aq,Ar,As,At,Au,Av,Aw],[]⟩ w:=by
 conv=>arg 2;arg 2;whnf
 conv=>arg 4;dsimp only
 refine JJ 6 (by kernel_rfl) (fun σ=>#[y0,.pointer (some ⟨gs,0,none⟩),y2,.int .i64 (k:Int),.pointer (some ⟨gc,0,none⟩),y5,y6,y7,y8,y9,A0,A1,A2,A3,A4,A5,A6,σ 0,σ 1,σ 2,σ 3,σ 4,σ 5,A7,A8,A9,Aa,Ab,Ac,Ad,Ae,Af,Ag,Ah,Ai,Aj,Ak,Al,Am,An,Ao,Ap,Aq,Ar,As,At,Au,Av,Aw]) (fun i=>([Ax,Ay,Az,AA,AB,AC]:List Value).getD i undef) rfl (fun i X W=>match i with
  | 0=>X=.pointer (some ⟨gs,3,none⟩)
  | 1=>X=.slice (some ⟨g,0,none⟩) n ca
  | 2=>X=.int .i64 (k:Int)
  | 3=>X=.agg #[.string x.chain,.int .i64 x.trust,.bool x.frozen,.slice ka x.known.length ma]
  | 4=>∃ o m ps,X=.agg #[.string x.chain,.int .i64 x.trust,.bool x.frozen,.slice o ps.length m]∧JH W w.heap.size (.slice o ps.length m) ps∧ps.map (·.k)=x.known
  | 5=>X=.pointer (some ⟨g,k*4,none⟩)
  | _=>True) ?_ (by kernel_rfl) ?_ ?_
 ·intro i X W W' HB H
  match i,H with
  | 0,H=>exact H
  | 1,H=>exact H
  | 2,H=>exact H
  | 3,H=>exact H
  | 4,H=>exact (by obtain ⟨o,m,ps,e,ho,hp⟩:=H;exact ⟨o,m,ps,e,ho.below HB,hp⟩)
  | 5,H=>exact H
  | _+6,_=>exact trivial
 ·refine ⟨?_,?_,?_,?_,?_,?_,trivial⟩
  ·
   intro σ W HJ hdep
   simp [Region.binds] at hdep
   have HJ:=hid HJ
   refine Qa rfl rfl ?_
   go_simp
   exact Ql.mk0 (.pointer (some ⟨gs,3,none⟩)) (by first | rfl | simp [Qe, *]) HJ.out rfl
  ·
   intro σ W HJ hdep
   simp [Region.binds] at hdep
   have HJ:=hid HJ
   have kc:=(rg hrs HJ).cell 3
   simp at kc
   refine Qa rfl rfl ?_
   go_simp
   exact Ql.mk0 (.slice (some ⟨g,0,none⟩) n ca) (by first | rfl | simp [Qe, *]) HJ.out rfl
  ·
   intro σ W HJ hdep
   simp [Region.binds] at hdep
   have HJ:=hid HJ
   refine Qa rfl rfl ?_
   go_simp
   exact Ql.mk0 (.int .i64 (k:Int)) (by first | rfl | simp [Qe, *]) HJ.out rfl
  ·
   intro σ W HJ hdep
   simp [Region.binds] at hdep
   have HJ:=hid HJ
   have k0:=(rg hrc HJ).cell 0
   have k1:=(rg hrc HJ).cell 1
   have k2:=(rg hrc HJ).cell 2
   have k3:=(rg hrc HJ).cell 3
   simp at k0
   simp at k1
   simp at k2
   simp at k3
   refine Qa rfl rfl ?_
   go_simp
   exact Ql.mk0 (.agg #[.string x.chain,.int .i64 x.trust,.bool x.frozen,.slice ka x.known.length ma]) (by first | rfl | simp [Qe, *]) HJ.out rfl
  ·
   intro σ W HJ hdep
   simp [Region.binds] at hdep
   have HJ:=hid HJ
   have HC:=hid (Qel x (.agg #[.string x.chain,.int .i64 x.trust,.bool x.frozen,.slice ka x.known.length ma]) N W (hcv.out.below (HJ.out.mono hN)) (Nat.le_trans hN HJ.out.size) hcf.out hkn)
   refine Qa rfl rfl ?_
   go_simp
   refine HC.out.mono ?_
   rintro e w2 ⟨hb2,o,m,ps,rfl,hown,hps⟩
   exact Ql.mk (.agg #[.string x.chain,.int .i64 x.trust,.bool x.frozen,.slice o ps.length m]) (by first | rfl | simp [Qe, *]) hb2 HJ.out ⟨o,m,ps,rfl,hown.mono HJ.out.size,hps⟩
  ·
   intro σ W HJ hdep
   simp [Region.binds] at hdep
   have HJ:=hid HJ
   refine Qa rfl rfl ?_
   go_simp
   exact Ql.mk0 (.pointer (some ⟨g,k*4,none⟩)) (by first | rfl | simp [Qe, *]) HJ.out rfl
 ·intro σ W hj hg
  have HJ:=hid hj
  clear hj
  simp only [List.drop_succ_cons,List.drop_zero]
  obtain ⟨o,m,ps,e4,ho,hp⟩:∃ o m ps,σ 4=.agg #[.string x.chain,.int .i64 x.trust,.bool x.frozen,.slice o ps.length m]∧JH W w.heap.size (.slice o ps.length m) ps∧ps.map (·.k)=x.known:=hg 4 (by decide)
  have e5:σ 5=.pointer (some ⟨g,k*4,none⟩):=hg 5 (by decide)
  have c0:=(HJ.out.cell (p:=⟨g,k*4,none⟩) hgl).trans hcg.out.1
  have c1:=(HJ.out.cell (p:=⟨g,k*4+1,none⟩) hgl).trans hcg.out.2.1
  have c2:=(HJ.out.cell (p:=⟨g,k*4+2,none⟩) hgl).trans hcg.out.2.2.1
  have c3:=(HJ.out.cell (p:=⟨g,k*4+3,none⟩) hgl).trans hcg.out.2.2.2
  have z0:=(World.frozen?_of_block (a:=⟨g,k*4,none⟩) (HJ.out.block g hgl)).trans (hfz.out _)
  have z1:=(World.frozen?_of_block (a:=⟨g,k*4+1,none⟩) (HJ.out.block g hgl)).trans (hfz.out _)
  have z2:=(World.frozen?_of_block (a:=⟨g,k*4+2,none⟩) (HJ.out.block g hgl)).trans (hfz.out _)
  have z3:=(World.frozen?_of_block (a:=⟨g,k*4+3,none⟩) (HJ.out.block g hgl)).trans (hfz.out _)
  have HO:=hid ho
  have HP:=hid hp
  have HJ2:=HJ
  clear hg ho hp
  rw [e4,e5]
  clear e4 e5
  go_wp2
  exact hQ.out σ o m ps W HJ2.out HO.out HP.out
theorem Qj5 {y0 y2 y3 y4 y5 y6 y7 y8 y9 A0 A1 A2 A3 A4 A5 A6 A7 A8 A9 Aa Ab Ac Ad Ar As Ae Af Ag Ah Ai Aj Ak Al Am An Ao Ap Aq At Au Av Aw Ax Ay Az AA AB AC:Value} {gs N:Nat} (s:St) (q1 o2 o3 o4 o5 o6 o7:Option Addr) (e1 c2 c3 c4 c5 c6 c7:Nat) (v0:Value) {w:World} (hN:N≤w.heap.size) (hrs:Hid (Row w gs 28 [.string s.name,.int .i64 s.height,.int .i64 s.time,.slice q1 s.clients.length e1,.slice o2 s.conns.length c2,.slice o3 s.chans.length c3,.slice o4 s.sent.length c4,.slice o5 s.got.length c5,.slice o6 s.acks.length c6,.slice o7 s.purses.length c7])) (hm:Hid (Zl w N s v0 (.slice o2 s.conns.length c2) (.slice o3 s.chans.length c3) (.slice o4 s.sent.length c4) (.slice o5 s.got.length c5) (.slice o6 s.acks.length c6) (.slice o7 s.purses.length c7))) (hfew:few s) (Q:Exit→Act→World→Prop)
  (hQ:Hid (∀ (σ:Nat→Value) (v2 v3 v7:Value) (w2:World),Below w.heap.size w w2→Qs 60 4 w2 w.heap.size v2 (s.conns.map Je)→Qs 54 7 w2 w.heap.size v3 (s.chans.map Qh)→Qs 75 3 w2 w.heap.size v7 (s.purses.map Jy)→Q .normal ⟨#[y0,.pointer (some ⟨gs,0,none⟩),y2,y3,y4,y5,y6,y7,y8,y9,A0,A1,A2,A3,A4,A5,A6,A7,A8,A9,Aa,Ab,Ac,Ad,σ 0,σ 1,v2,σ 3,σ 4,v3,σ 6,σ 7,v7,.pointer (some ⟨gs,4,none⟩),.pointer (some ⟨gs,5,none⟩),.pointer (some ⟨gs,9,none⟩),Ae,Af,Ag,Ah,Ai,Aj,Ak,Al,Am,An,Ao,Ap,Aq],[]⟩ (((w2.setCell ⟨gs,4,none⟩ v2).setCell ⟨gs,5,none⟩ v3).setCell ⟨gs,9,none⟩ v7))) :
  Code.wp Tryz.prog (.region 7 ((Tryz.f57.body.bind (Q3 7)).getD #[]) true) Q ⟨#[y0,.pointer (some ⟨gs,0,none⟩),y2,y3,y4,y5,y6,y7,y8,y9,A0,A1,A2,A3,A4,A5,A6,A7,A8,A9,Aa,Ab,Ac,Ad,At,Au,Av,Aw,Ax,Ay,Az,AA,AB,AC,Ar,As,Ae,Af,Ag,Ah,Ai,Aj,Ak,Al,Am,An,Ao,Ap,Aq],[]⟩ w:=by
 conv=>arg 2;arg 2;whnf
 conv=>arg 4;dsimp only
 unfold few at hfew
 refine JJ 10 (by kernel_rfl) (fun σ=>#[y0,.pointer (some ⟨gs,0,none⟩),y2,y3,y4,y5,y6,y7,y8,y9,A0,A1,A2,A3,A4,A5,A6,A7,A8,A9,Aa,Ab,Ac,Ad,σ 0,σ 1,σ 2,σ 3,σ 4,σ 5,σ 6,σ 7,σ 8,σ 9,Ar,As,Ae,Af,Ag,Ah,Ai,Aj,Ak,Al,Am,An,Ao,Ap,Aq]) (fun i=>([At,Au,Av,Aw,Ax,Ay,Az,AA,AB,AC]:List Value).getD i undef) rfl (fun i X W=>match i with
  | 0=>X=.pointer (some ⟨gs,4,none⟩)
  | 1=>X=.slice o2 s.conns.length c2
  | 2=>Qs 60 4 W w.heap.size X (s.conns.map Je)
  | 3=>X=.pointer (some ⟨gs,5,none⟩)
  | 4=>X=.slice o3 s.chans.length c3
  | 5=>Qs 54 7 W w.heap.size X (s.chans.map Qh)
  | 6=>X=.pointer (some ⟨gs,9,none⟩)
  | 7=>X=.slice o7 s.purses.length c7
  | 8=>Qs 75 3 W w.heap.size X (s.purses.map Jy)
  | 9=>X=.pointer (some ⟨gs,4,none⟩)
  | _=>True) ?_ (by kernel_rfl) ?_ ?_
 ·intro i X W W' HB H
  match i,H with
  | 0,H=>exact H
  | 1,H=>exact H
  | 2,H=>exact (H.below HB)
  | 3,H=>exact H
  | 4,H=>exact H
  | 5,H=>exact (H.below HB)
  | 6,H=>exact H
  | 7,H=>exact H
  | 8,H=>exact (H.below HB)
  | 9,H=>exact H
  | _+10,_=>exact trivial
 ·refine ⟨?_,?_,?_,?_,?_,?_,?_,?_,?_,?_,trivial⟩
  ·
   intro σ W HJ hdep
   simp [Region.binds] at hdep
   have HJ:=hid HJ
   refine Qa rfl rfl ?_
   go_simp
   exact Ql.mk0 (.pointer (some ⟨gs,4,none⟩)) (by first | rfl | simp [Qe, *]) HJ.out rfl
  ·
   intro σ W HJ hdep
   simp [Region.binds] at hdep
   have HJ:=hid HJ
   have kc:=(rg hrs HJ).cell 4
   simp at kc
   refine Qa rfl rfl ?_
   go_simp
   exact Ql.mk0 (.slice o2 s.conns.length c2) (by first | rfl | simp [Qe, *]) HJ.out rfl
  ·
   intro σ W HJ hdep
   simp [Region.binds] at hdep
   have HJ:=hid HJ
   have HC:=hid (Qjl (s.conns.map Je) (.slice o2 s.conns.length c2) N W (YO (hm.out.below (HJ.out.mono hN)).conns) (Nat.le_trans hN HJ.out.size) QcM (by rw [List.length_map];omega))
   refine Qa rfl rfl ?_
   go_simp
   refine HC.out.mono ?_
   rintro e w2 ⟨hb2,v',rfl,hrow⟩
   exact Ql.mk v' (by first | rfl | simp [Qe, *]) hb2 HJ.out (hrow.mono HJ.out.size)
  ·
   intro σ W HJ hdep
   simp [Region.binds] at hdep
   have HJ:=hid HJ
   refine Qa rfl rfl ?_
   go_simp
   exact Ql.mk0 (.pointer (some ⟨gs,5,none⟩)) (by first | rfl | simp [Qe, *]) HJ.out rfl
  ·
   intro σ W HJ hdep
   simp [Region.binds] at hdep
   have HJ:=hid HJ
   have kc:=(rg hrs HJ).cell 5
   simp at kc
   refine Qa rfl rfl ?_
   go_simp
   exact Ql.mk0 (.slice o3 s.chans.length c3) (by first | rfl | simp [Qe, *]) HJ.out rfl
  ·
   intro σ W HJ hdep
   simp [Region.binds] at hdep
   have HJ:=hid HJ
   have HC:=hid (Qjj (s.chans.map Qh) (.slice o3 s.chans.length c3) N W (YO (hm.out.below (HJ.out.mono hN)).chans) (Nat.le_trans hN HJ.out.size) YJ (by rw [List.length_map];omega))
   refine Qa rfl rfl ?_
   go_simp
   refine HC.out.mono ?_
   rintro e w2 ⟨hb2,v',rfl,hrow⟩
   exact Ql.mk v' (by first | rfl | simp [Qe, *]) hb2 HJ.out (hrow.mono HJ.out.size)
  ·
   intro σ W HJ hdep
   simp [Region.binds] at hdep
   have HJ:=hid HJ
   refine Qa rfl rfl ?_
   go_simp
   exact Ql.mk0 (.pointer (some ⟨gs,9,none⟩)) (by first | rfl | simp [Qe, *]) HJ.out rfl
  ·
   intro σ W HJ hdep
   simp [Region.binds] at hdep
   have HJ:=hid HJ
   have kc:=(rg hrs HJ).cell 9
   simp at kc
   refine Qa rfl rfl ?_
   go_simp
   exact Ql.mk0 (.slice o7 s.purses.length c7) (by first | rfl | simp [Qe, *]) HJ.out rfl
  ·
   intro σ W HJ hdep
   simp [Region.binds] at hdep
   have HJ:=hid HJ
   have HC:=hid (Qjn (s.purses.map Jy) (.slice o7 s.purses.length c7) N W (YO (hm.out.below (HJ.out.mono hN)).purses) (Nat.le_trans hN HJ.out.size) Qc6 (by rw [List.length_map];omega))
   refine Qa rfl rfl ?_
   go_simp
   refine HC.out.mono ?_
   rintro e w2 ⟨hb2,v',rfl,hrow⟩
   exact Ql.mk v' (by first | rfl | simp [Qe, *]) hb2 HJ.out (hrow.mono HJ.out.size)
  ·
   intro σ W HJ hdep
   simp [Region.binds] at hdep
   have HJ:=hid HJ
   refine Qa rfl rfl ?_
   go_simp
   exact Ql.mk0 (.pointer (some ⟨gs,4,none⟩)) (by first | rfl | simp [Qe, *]) HJ.out rfl
 ·intro σ W hj hg
  have HJ:=hid hj
  clear hj
  simp only [List.drop_succ_cons,List.drop_zero]
  have r2:Qs 60 4 W w.heap.size (σ 2) (s.conns.map Je):=hg 2 (by decide)
  obtain ⟨oc2,cc2,e2,-⟩:=r2.shape
  have R2:=hid r2
  rw [e2] at R2
  clear r2
  generalize (s.conns.map Je).length=nn2 at *
  have r5:Qs 54 7 W w.heap.size (σ 5) (s.chans.map Qh):=hg 5 (by decide)
  obtain ⟨oc5,cc5,e5,-⟩:=r5.shape
  have R5:=hid r5
  rw [e5] at R5
  clear r5
  generalize (s.chans.map Qh).length=nn5 at *
  have r8:Qs 75 3 W w.heap.size (σ 8) (s.purses.map Jy):=hg 8 (by decide)
  obtain ⟨oc8,cc8,e8,-⟩:=r8.shape
  have R8:=hid r8
  rw [e8] at R8
  clear r8
  generalize (s.purses.map Jy).length=nn8 at *
  have e9:σ 9=.pointer (some ⟨gs,4,none⟩):=hg 9 (by decide)
  have hr:=hrs.out.below HJ.out hrs.out.lt
  have k4:W.cell? ⟨gs,4,none⟩=some (.slice o2 s.conns.length c2):=hr.cell 4
  have k5:W.cell? ⟨gs,5,none⟩=some (.slice o3 s.chans.length c3):=hr.cell 5
  have k9:W.cell? ⟨gs,9,none⟩=some (.slice o7 s.purses.length c7):=hr.cell 9
  have z4:W.frozen? ⟨gs,4,none⟩=false:=hr.frozen 4
  have z5:W.frozen? ⟨gs,5,none⟩=false:=hr.frozen 5
  have z9:W.frozen? ⟨gs,9,none⟩=false:=hr.frozen 9
  have HJ2:=HJ
  clear hg hr
  rw [e2,e5,e8,e9]
  clear e2 e5 e8 e9
  go_wp2
  exact hQ.out σ _ _ _ W HJ2.out R2.out R5.out R8.out
theorem Qj6 {y0 y2 y3 y4 y5 y6 y7 y8 y9 A0 A1 A2 A3 A4 A5 A6 A7 A8 A9 Aa Ab Ac Ad Ae Af Ag Ah Ai Aj Ak Al Am An Ao Ap Ar As Aq At Au Av Aw Ax Ay Az AA AB AC:Value} {gs N:Nat} (s:St) (q1 q2 q3 q7 o4 o5 o6:Option Addr) (e1 n2 e2 n3 e3 n7 e7 c4 c5 c6:Nat) (u1 u2 u3 u7:Value) {w:World} (hN:N≤w.heap.size) (hrs:Hid (Row w gs 28 [.string s.name,.int .i64 s.height,.int .i64 s.time,.slice q1 s.clients.length e1,.slice q2 n2 e2,.slice q3 n3 e3,.slice o4 s.sent.length c4,.slice o5 s.got.length c5,.slice o6 s.acks.length c6,.slice q7 n7 e7])) (hm:Hid (Zl w N s u1 u2 u3 (.slice o4 s.sent.length c4) (.slice o5 s.got.length c5) (.slice o6 s.acks.length c6) u7)) (hfew:few s) (hfit:Hid (QeH s)) (Q:Exit→Act→World→Prop)
  (hQ:Hid (∀ (σ:Nat→Value) (p4 p5 p6:Option Addr) (d4 d5 d6:Nat) (w2:World),Below w.heap.size w w2→QL (fun b=>(b<N∨w.heap.size≤b)∧b<w2.heap.size) w2 (fun w3=>QB MkR 3 w3 w3.heap.size (.slice p4 s.sent.length d4) s.sent)→QL (fun b=>(b<N∨w.heap.size≤b)∧b<w2.heap.size) w2 (fun w3=>QB MkR 3 w3 w3.heap.size (.slice p5 s.got.length d5) s.got)→QL (fun b=>(b<N∨w.heap.size≤b)∧b<w2.heap.size) w2 (fun w3=>QB MkR 3 w3 w3.heap.size (.slice p6 s.acks.length d6) s.acks)→Q .normal ⟨#[y0,.pointer (some ⟨gs,0,none⟩),y2,y3,y4,y5,y6,y7,y8,y9,A0,A1,A2,A3,A4,A5,A6,A7,A8,A9,Aa,Ab,Ac,Ad,Ae,Af,Ag,Ah,Ai,Aj,Ak,Al,Am,An,Ao,Ap,σ 0,σ 1,.slice p4 s.sent.length d4,σ 3,σ 4,.slice p5 s.got.length d5,σ 6,σ 7,.slice p6 s.acks.length d6,.pointer (some ⟨gs,6,none⟩),.pointer (some ⟨gs,7,none⟩),.pointer (some ⟨gs,8,none⟩),Aq],[]⟩ (((w2.setCell ⟨gs,6,none⟩ (.slice p4 s.sent.length d4)).setCell ⟨gs,7,none⟩ (.slice p5 s.got.length d5)).setCell ⟨gs,8,none⟩ (.slice p6 s.acks.length d6)))) :
  Code.wp Tryz.prog (.region 8 ((Tryz.f57.body.bind (Q3 8)).getD #[]) true) Q ⟨#[y0,.pointer (some ⟨gs,0,none⟩),y2,y3,y4,y5,y6,y7,y8,y9,A0,A1,A2,A3,A4,A5,A6,A7,A8,A9,Aa,Ab,Ac,Ad,Ae,Af,Ag,Ah,Ai,Aj,Ak,Al,Am,An,Ao,Ap,At,Au,Av,Aw,Ax,Ay,Az,AA,AB,AC,Ar,As,Aq],[]⟩ w:=by
 conv=>arg 2;arg 2;whnf
 conv=>arg 4;dsimp only
 unfold few at hfew
 refine JJ 10 (by kernel_rfl) (fun σ=>#[y0,.pointer (some ⟨gs,0,none⟩),y2,y3,y4,y5,y6,y7,y8,y9,A0,A1,A2,A3,A4,A5,A6,A7,A8,A9,Aa,Ab,Ac,Ad,Ae,Af,Ag,Ah,Ai,Aj,Ak,Al,Am,An,Ao,Ap,σ 0,σ 1,σ 2,σ 3,σ 4,σ 5,σ 6,σ 7,σ 8,σ 9,Ar,As,Aq]) (fun i=>([At,Au,Av,Aw,Ax,Ay,Az,AA,AB,AC]:List Value).getD i undef) rfl (fun i X W=>match i with
  | 0=>X=.pointer (some ⟨gs,6,none⟩)
  | 1=>X=.slice o4 s.sent.length c4
  | 2=>QL (fun b=>(b<N∨w.heap.size≤b)∧b<W.heap.size) W (fun w3=>QB MkR 3 w3 w3.heap.size X s.sent)
  | 3=>X=.pointer (some ⟨gs,7,none⟩)
  | 4=>X=.slice o5 s.got.length c5
  | 5=>QL (fun b=>(b<N∨w.heap.size≤b)∧b<W.heap.size) W (fun w3=>QB MkR 3 w3 w3.heap.size X s.got)
  | 6=>X=.pointer (some ⟨gs,8,none⟩)
  | 7=>X=.slice o6 s.acks.length c6
  | 8=>QL (fun b=>(b<N∨w.heap.size≤b)∧b<W.heap.size) W (fun w3=>QB MkR 3 w3 w3.heap.size X s.acks)
  | 9=>X=.pointer (some ⟨gs,6,none⟩)
  | _=>True) ?_ (by kernel_rfl) ?_ ?_
 ·intro i X W W' HB H
  match i,H with
  | 0,H=>exact H
  | 1,H=>exact H
  | 2,H=>exact ((H.below HB).wide (fun b hF=>⟨hF.1,Nat.lt_of_lt_of_le hF.2 HB.size⟩) (fun b hF=>hF.2))
  | 3,H=>exact H
  | 4,H=>exact H
  | 5,H=>exact ((H.below HB).wide (fun b hF=>⟨hF.1,Nat.lt_of_lt_of_le hF.2 HB.size⟩) (fun b hF=>hF.2))
  | 6,H=>exact H
  | 7,H=>exact H
  | 8,H=>exact ((H.below HB).wide (fun b hF=>⟨hF.1,Nat.lt_of_lt_of_le hF.2 HB.size⟩) (fun b hF=>hF.2))
  | 9,H=>exact H
  | _+10,_=>exact trivial
 ·refine ⟨?_,?_,?_,?_,?_,?_,?_,?_,?_,?_,trivial⟩
  ·
   intro σ W HJ hdep
   simp [Region.binds] at hdep
   have HJ:=hid HJ
   refine Qa rfl rfl ?_
   go_simp
   exact Ql.mk0 (.pointer (some ⟨gs,6,none⟩)) (by first | rfl | simp [Qe, *]) HJ.out rfl
  ·
   intro σ W HJ hdep
   simp [Region.binds] at hdep
   have HJ:=hid HJ
   have kc:=(rg hrs HJ).cell 6
   simp at kc
   refine Qa rfl rfl ?_
   go_simp
   exact Ql.mk0 (.slice o4 s.sent.length c4) (by first | rfl | simp [Qe, *]) HJ.out rfl
  ·
   intro σ W HJ hdep
   simp [Region.binds] at hdep
   have HJ:=hid HJ
   have HC:=hid (Y2 s.sent (.slice o4 s.sent.length c4) N W (hm.out.below (HJ.out.mono hN)).sent (Nat.le_trans hN HJ.out.size) (by omega) hfit.out.sent)
   refine Qa rfl rfl ?_
   go_simp
   refine HC.out.mono ?_
   rintro e w2 ⟨hb2,v',rfl,hh⟩
   exact Ql.mk v' (by first | rfl | simp [Qe, *]) hb2 HJ.out (hh.wide (fun b hF=>⟨hF.1.imp id (fun h=>Nat.le_trans HJ.out.size h),hF.2⟩) (fun b hF=>hF.2))
  ·
   intro σ W HJ hdep
   simp [Region.binds] at hdep
   have HJ:=hid HJ
   refine Qa rfl rfl ?_
   go_simp
   exact Ql.mk0 (.pointer (some ⟨gs,7,none⟩)) (by first | rfl | simp [Qe, *]) HJ.out rfl
  ·
   intro σ W HJ hdep
   simp [Region.binds] at hdep
   have HJ:=hid HJ
   have kc:=(rg hrs HJ).cell 7
   simp at kc
   refine Qa rfl rfl ?_
   go_simp
   exact Ql.mk0 (.slice o5 s.got.length c5) (by first | rfl | simp [Qe, *]) HJ.out rfl
  ·
   intro σ W HJ hdep
   simp [Region.binds] at hdep
   have HJ:=hid HJ
   have HC:=hid (Y2 s.got (.slice o5 s.got.length c5) N W (hm.out.below (HJ.out.mono hN)).got (Nat.le_trans hN HJ.out.size) (by omega) hfit.out.got)
   refine Qa rfl rfl ?_
   go_simp
   refine HC.out.mono ?_
   rintro e w2 ⟨hb2,v',rfl,hh⟩
   exact Ql.mk v' (by first | rfl | simp [Qe, *]) hb2 HJ.out (hh.wide (fun b hF=>⟨hF.1.imp id (fun h=>Nat.le_trans HJ.out.size h),hF.2⟩) (fun b hF=>hF.2))
  ·
   intro σ W HJ hdep
   simp [Region.binds] at hdep
   have HJ:=hid HJ
   refine Qa rfl rfl ?_
   go_simp
   exact Ql.mk0 (.pointer (some ⟨gs,8,none⟩)) (by first | rfl | simp [Qe, *]) HJ.out rfl
  ·
   intro σ W HJ hdep
   simp [Region.binds] at hdep
   have HJ:=hid HJ
   have kc:=(rg hrs HJ).cell 8
   simp at kc
   refine Qa rfl rfl ?_
   go_simp
   exact Ql.mk0 (.slice o6 s.acks.length c6) (by first | rfl | simp [Qe, *]) HJ.out rfl
  ·
   intro σ W HJ hdep
   simp [Region.binds] at hdep
   have HJ:=hid HJ
   have HC:=hid (Y2 s.acks (.slice o6 s.acks.length c6) N W (hm.out.below (HJ.out.mono hN)).acks (Nat.le_trans hN HJ.out.size) (by omega) hfit.out.acks)
   refine Qa rfl rfl ?_
   go_simp
   refine HC.out.mono ?_
   rintro e w2 ⟨hb2,v',rfl,hh⟩
   exact Ql.mk v' (by first | rfl | simp [Qe, *]) hb2 HJ.out (hh.wide (fun b hF=>⟨hF.1.imp id (fun h=>Nat.le_trans HJ.out.size h),hF.2⟩) (fun b hF=>hF.2))
  ·
   intro σ W HJ hdep
   simp [Region.binds] at hdep
   have HJ:=hid HJ
   refine Qa rfl rfl ?_
   go_simp
   exact Ql.mk0 (.pointer (some ⟨gs,6,none⟩)) (by first | rfl | simp [Qe, *]) HJ.out rfl
 ·intro σ W hj hg
  have HJ:=hid hj
  clear hj
  simp only [List.drop_succ_cons,List.drop_zero]
  have r2:QL (fun b=>(b<N∨w.heap.size≤b)∧b<W.heap.size) W (fun w3=>QB MkR 3 w3 w3.heap.size (σ 2) s.sent):=hg 2 (by decide)
  obtain ⟨oc2,cc2,e2,-⟩:=r2.now.shape
  have R2:=hid r2
  rw [e2] at R2
  clear r2
  have r5:QL (fun b=>(b<N∨w.heap.size≤b)∧b<W.heap.size) W (fun w3=>QB MkR 3 w3 w3.heap.size (σ 5) s.got):=hg 5 (by decide)
  obtain ⟨oc5,cc5,e5,-⟩:=r5.now.shape
  have R5:=hid r5
  rw [e5] at R5
  clear r5
  have r8:QL (fun b=>(b<N∨w.heap.size≤b)∧b<W.heap.size) W (fun w3=>QB MkR 3 w3 w3.heap.size (σ 8) s.acks):=hg 8 (by decide)
  obtain ⟨oc8,cc8,e8,-⟩:=r8.now.shape
  have R8:=hid r8
  rw [e8] at R8
  clear r8
  have e9:σ 9=.pointer (some ⟨gs,6,none⟩):=hg 9 (by decide)
  have hr:=hrs.out.below HJ.out hrs.out.lt
  have k6:W.cell? ⟨gs,6,none⟩=some (.slice o4 s.sent.length c4):=hr.cell 6
  have k7:W.cell? ⟨gs,7,none⟩=some (.slice o5 s.got.length c5):=hr.cell 7
  have k8:W.cell? ⟨gs,8,none⟩=some (.slice o6 s.acks.length c6):=hr.cell 8
  have z6:W.frozen? ⟨gs,6,none⟩=false:=hr.frozen 6
  have z7:W.frozen? ⟨gs,7,none⟩=false:=hr.frozen 7
  have z8:W.frozen? ⟨gs,8,none⟩=false:=hr.frozen 8
  have HJ2:=HJ
  clear hg hr
  rw [e2,e5,e8,e9]
  clear e2 e5 e8 e9
  go_wp2
  exact hQ.out σ _ _ _ _ _ _ W HJ2.out R2.out R5.out R8.out
theorem Jt.on {α:Type} {t:TypeId} {R:World→Nat→List Value→α→Prop} {k N base:Nat} {w w':World} {v:Value} {l:List α} (h:Jt t R k N base w v l) (hb:Below 0 w w') (hk:∀ b,b<w.heap.size→b<N∨base≤b→w'.heap[b]?=w.heap[b]?):Jt t R k N base w' v l:=by
 obtain ⟨rs,h1,h2,h3⟩:=h
 exact ⟨rs,h1,h2.keep fun g hg=>hk g (h2.own g hg).2 (.inr (h2.own g hg).1),fun i r x hr hx=>((h3 i r x hr hx).on hb (fun b hF=>hk b hF.2.2 hF.2.1)).wide (fun b hF=>⟨hF.1,hF.2.1,Nat.lt_of_lt_of_le hF.2.2 hb.size⟩) (fun b hF=>hF.2.2)⟩
theorem Row.setRow {w:World} {g:Nat} {t:TypeId} {old:List Value} (h:Row w g t old) (cs:List Value):Row (w.setRow g cs.toArray) g t cs:=setRow_heap w g old.toArray cs.toArray t (0,0) h
theorem Qs.ne {t u:TypeId} {k j:Nat} {w:World} {b1 b2:Nat} {v x:Value} {rs qs:List (List Value)} (h:Qs t k w b1 v rs) (h':Qs u j w b2 x qs) (htu:t≠u):∀ b,v.ownBlock=some b→x.ownBlock≠some b:=by
 intro b e1 e2
 rcases h.2.2 with ⟨rfl,_⟩ | ⟨g,c,cur,rfl,_,h8,_⟩
 ·cases e1
 rcases h'.2.2 with ⟨rfl,_⟩ | ⟨g',c',cur',rfl,_,h9,_⟩
 ·cases e2
 obtain rfl:g=b:=by simpa [Value.ownBlock] using e1
 obtain rfl:g'=g:=by simpa [Value.ownBlock] using e2
 rw [h8] at h9
 simp at h9
 exact htu h9.2
theorem Q7.make {N base m1 m2:Nat} {w:World} {s:St} {v1 v2 v3 v4 v5 v6 v7:Value} (hN:N≤base) (hm:base≤m1∧m1≤m2) (h1:QL (fun b=>(b<N∨base≤b)∧b<m1) w (fun w2=>QB ClR 4 w2 w2.heap.size v1 s.clients))
  (h2:QV 60 Je 4 w m1 v2 s.conns) (h3:QV 54 Qh 7 w m1 v3 s.chans) (h7:QV 75 Jy 3 w m1 v7 s.purses)
  (n2:∀ b,v2.ownBlock=some b→b<m2) (n3:∀ b,v3.ownBlock=some b→b<m2) (n7:∀ b,v7.ownBlock=some b→b<m2)
  (h4:QL (fun b=>(b<N∨m2≤b)∧b<w.heap.size) w (fun w2=>QB MkR 3 w2 w2.heap.size v4 s.sent)) (h5:QL (fun b=>(b<N∨m2≤b)∧b<w.heap.size) w (fun w2=>QB MkR 3 w2 w2.heap.size v5 s.got)) (h6:QL (fun b=>(b<N∨m2≤b)∧b<w.heap.size) w (fun w2=>QB MkR 3 w2 w2.heap.size v6 s.acks)) :
  Q7 N base w s v1 v2 v3 v4 v5 v6 v7:=by
 have t23:=Qs.ne h2 h3 (by decide)
 have t27:=Qs.ne h2 h7 (by decide)
 have t37:=Qs.ne h3 h7 (by decide)
 have W:∀ (i:Nat) (P:World→Prop),i=4∨i=5∨i=6→QL (fun b=>(b<N∨m2≤b)∧b<w.heap.size) w P→QL (fun b=>(i=1∧(b<N∨base≤b)∧b<m1)∨(i=2∧v2.ownBlock=some b)∨(i=3∧v3.ownBlock=some b)∨(i=7∧v7.ownBlock=some b)∨((i=4∨i=5∨i=6)∧(b<N∨m2≤b)∧b<w.heap.size)) w P:=fun i P hi hP =>
  hP.wide (fun b hF=>.inr (.inr (.inr (.inr ⟨hi,hF⟩)))) (fun b hF=>by
   rcases hF with ⟨rfl,_⟩ | ⟨rfl,_⟩ | ⟨rfl,_⟩ | ⟨rfl,_⟩ | ⟨_,hF⟩
   ·omega
   ·omega
   ·omega
   ·omega
   ·exact hF.2)
 refine ⟨fun i b=>(i=1∧(b<N∨base≤b)∧b<m1)∨(i=2∧v2.ownBlock=some b)∨(i=3∧v3.ownBlock=some b)∨(i=7∧v7.ownBlock=some b)∨((i=4∨i=5∨i=6)∧(b<N∨m2≤b)∧b<w.heap.size),fun i b hF=>?_,h1.wide (fun b hF=>.inl ⟨rfl,hF⟩) (fun b hF=>?_),Qs.mono h2 hm.1,Qs.mono h3 hm.1,W 4 _ (.inl rfl) h4,W 5 _ (.inr (.inl rfl)) h5,W 6 _ (.inr (.inr rfl)) h6,Qs.mono h7 hm.1,fun b e=>⟨.inr (.inl ⟨rfl,e⟩),fun i hi hF=>?_⟩,fun b e=>⟨.inr (.inr (.inl ⟨rfl,e⟩)),fun i hi hF=>?_⟩,fun b e=>⟨.inr (.inr (.inr (.inl ⟨rfl,e⟩))),fun i hi hF=>?_⟩⟩
 ·rcases hF with ⟨_,hF,_⟩ | ⟨_,e⟩ | ⟨_,e⟩ | ⟨_,e⟩ | ⟨_,hF,_⟩
  ·exact hF
  ·exact .inr (Nat.le_trans hm.1 (h2.own b e).1)
  ·exact .inr (Nat.le_trans hm.1 (h3.own b e).1)
  ·exact .inr (Nat.le_trans hm.1 (h7.own b e).1)
  ·omega
 ·rcases hF with ⟨_,hF⟩ | ⟨h,_⟩ | ⟨h,_⟩ | ⟨h,_⟩ | ⟨h,_⟩
  ·exact h1.1 b hF
  ·omega
  ·omega
  ·omega
  ·omega
 ·have hb:=(h2.own b e)
  have hb2:=n2 b e
  rcases hF with ⟨_,hF⟩ | ⟨h,_⟩ | ⟨_,e'⟩ | ⟨_,e'⟩ | ⟨_,hF⟩
  ·omega
  ·exact hi h
  ·exact t23 b e e'
  ·exact t27 b e e'
  ·omega
 ·have hb:=(h3.own b e)
  have hb2:=n3 b e
  rcases hF with ⟨_,hF⟩ | ⟨_,e'⟩ | ⟨h,_⟩ | ⟨_,e'⟩ | ⟨_,hF⟩
  ·omega
  ·exact t23 b e' e
  ·exact hi h
  ·exact t37 b e e'
  ·omega
 ·have hb:=(h7.own b e)
  have hb2:=n7 b e
  rcases hF with ⟨_,hF⟩ | ⟨_,e'⟩ | ⟨_,e'⟩ | ⟨h,_⟩ | ⟨_,hF⟩
  ·omega
  ·exact t27 b e' e
  ·exact t37 b e' e
  ·exact hi h
  ·omega
theorem Q7.lower {N base base':Nat} {w:World} {s:St} {v1 v2 v3 v4 v5 v6 v7:Value} (h:Q7 N base w s v1 v2 v3 v4 v5 v6 v7) (hb:base'≤base):Q7 N base' w s v1 v2 v3 v4 v5 v6 v7:=by
 obtain ⟨F,h0,h1,h2,h3,h4,h5,h6,h7,k⟩:=h
 exact ⟨F,fun i b hF=>(h0 i b hF).imp id (Nat.le_trans hb),h1,Qs.mono h2 hb,Qs.mono h3 hb,h4,h5,h6,Qs.mono h7 hb,k⟩
theorem QjP:QjL 57:=by
 intro s v N w hv hN hfit hfew
 obtain ⟨o1,c1,o2,c2,o3,c3,o4,c4,o5,c5,o6,c6,o7,c7,rfl,hm⟩:=hv.open
 have HFEW:=hid hfew
 have HMF:=hid (show QeH s from ⟨hfit.2.2.2.2.1.2,hfit.2.2.2.2.2.1.2,hfit.2.2.2.2.2.2.1.2⟩)
 have HCF:=hid hfit.2.1.2
 have HCK:=hid hfew.2.2.2.2.2.2.2
 have hl1:s.clients.length≤100:=hfew.1
 obtain ⟨w0,hw0,hb0,HR0,HZ0,hsz0⟩:=Qkz w 28 [.string s.name,.int .i64 s.height,.int .i64 s.time,.slice o1 s.clients.length c1,.slice o2 s.conns.length c2,.slice o3 s.chans.length c3,.slice o4 s.sent.length c4,.slice o5 s.got.length c5,.slice o6 s.acks.length c6,.slice o7 s.purses.length c7] 28 [.string ⟨#[]⟩,.int .i64 0,.int .i64 0,.slice none 0 0,.slice none 0 0,.slice none 0 0,.slice none 0 0,.slice none 0 0,.slice none 0 0,.slice none 0 0]
 have HB0:=hid hb0
 have hN0:N≤w0.heap.size:=by omega
 have HM:=hid (show ∀ wx,Below w.heap.size w wx→Zl wx N s (.slice o1 s.clients.length c1) (.slice o2 s.conns.length c2) (.slice o3 s.chans.length c3) (.slice o4 s.sent.length c4) (.slice o5 s.got.length c5) (.slice o6 s.acks.length c6) (.slice o7 s.purses.length c7) from fun wx hx=>hm.below (hx.mono hN))
 obtain ⟨rs,hr1,hr2,hr3⟩:=(hm.below (hb0.mono hN)).clients
 have hok:∀ r∈rs,r.length=4∧∀ x∈r,x.oneCell'=true:=fun r hr=>by
  obtain ⟨i,hi⟩:=List.getElem?_of_mem hr
  have hil:=(List.getElem?_eq_some_iff.1 hi).1
  obtain ⟨dv,rfl,hd⟩:=hr3 i r (s.clients[i]'(by omega)) hi (List.getElem?_eq_getElem _)
  obtain ⟨od,cd,rfl,-⟩:=hd.shape
  exact ⟨rfl,fun x hx=>by simp at hx;rcases hx with rfl | rfl | rfl | rfl <;> rfl⟩
 have HCL:=hid (Qjk rs (.slice o1 s.clients.length c1) N w0 hr2 hN0 hok (by omega))
 have HNEW:=hid (show ∀ w1 v1,Below w0.heap.size w0 w1→Qs 72 4 w1 w0.heap.size v1 rs→Jt 72 ClR 4 N w0.heap.size w1 v1 s.clients from fun w1 v1 hb hr=>Jt.new ClR.stays hr1 hr hr3 hN0 hN0 hb)
 have k3:w0.cell? ⟨w.heap.size,3,none⟩=some (.slice o1 s.clients.length c1):=HR0.out.cell 3
 have z3:w0.frozen? ⟨w.heap.size,3,none⟩=false:=HR0.out.frozen 3
 have HW0:=hid hw0
 clear hv hm hfit hfew hb0 hw0 hr1 hr2 hr3 hok
 go_enter Tryz.func57,Tryz.ntmps57
 go_upto_region 1 with fail
 rw [HW0.out]
 go_wp2_with fail
 refine HCL.out.mono ?_
 rintro e w1 ⟨hb1,v1,rfl,hrow⟩
 have hrh:=HNEW.out _ _ hb1 hrow
 obtain ⟨q1,e1,rfl,-⟩:=hrh.shape
 have hrb1:=HR0.out.below hb1 HR0.out.lt
 have hzb1:=HZ0.out.below hb1 HZ0.out.lt
 have k3':w1.cell? ⟨w.heap.size,3,none⟩=some (.slice o1 s.clients.length c1):=hrb1.cell 3
 have z3':w1.frozen? ⟨w.heap.size,3,none⟩=false:=hrb1.frozen 3
 obtain ⟨w2,hw2⟩:∃ w2,w1.setCell ⟨w.heap.size,3,none⟩ (.slice q1 s.clients.length e1)=w2:=⟨_,rfl⟩
 have hs2:w2.heap.size=w1.heap.size:=by rw [← hw2];simp [World.setCell]
 have ho2:∀ b,b≠w.heap.size→w2.heap[b]?=w1.heap[b]?:=fun b hb=>by rw [← hw2];exact Below.heap_setCell _ _ _ _ hb
 have HRH:=hid (show Jt 72 ClR 4 N w0.heap.size w2 (.slice q1 s.clients.length e1) s.clients from hrh.on (by rw [← hw2];exact (Below.refl 0 w1).setCell (Nat.zero_le _) _) (fun b _ hb=>ho2 b (by omega)))
 have HR2:=hid (show Row w2 w.heap.size 28 [.string s.name,.int .i64 s.height,.int .i64 s.time,.slice q1 s.clients.length e1,.slice o2 s.conns.length c2,.slice o3 s.chans.length c3,.slice o4 s.sent.length c4,.slice o5 s.got.length c5,.slice o6 s.acks.length c6,.slice o7 s.purses.length c7] by rw [← hw2];exact hrb1.set 3 _)
 have HZ2:=hid (show Row w2 (w.heap.size+1) 28 [.string ⟨#[]⟩,.int .i64 0,.int .i64 0,.slice none 0 0,.slice none 0 0,.slice none 0 0,.slice none 0 0,.slice none 0 0,.slice none 0 0,.slice none 0 0] by rw [← hw2];exact hzb1.other _ (by simp))
 have HB2:=hid (show Below w.heap.size w w2 by rw [← hw2];exact (HB0.out.trans (hb1.mono HB0.out.size)).setCell (Nat.le_refl _) _)
 have hsz2:w0.heap.size≤w2.heap.size:=by rw [hs2];exact hb1.size
 have HW2:=hid hw2
 clear k3 z3 hb1 hrow hrh hrb1 hzb1 hs2 ho2 hw2
 go_upto_region 2 with fail
 rw [HW2.out]
 clear k3' z3'
 have k3:w2.cell? ⟨w.heap.size,3,none⟩=some (.slice q1 s.clients.length e1):=HR2.out.cell 3
 go_wp2_with fail
 clear k3
 go_loopw [12] (fun i wr=>∃ k:Nat,k≤s.clients.length∧i=.int .i64 (k:Int)∧Hid (Jt 72 ClR 4 N w0.heap.size wr (.slice q1 s.clients.length e1) s.clients∧Below w0.heap.size w2 wr)) (fun i _=>s.clients.length-(intOf i).toNat)
 case atStart=>exact ⟨0,by omega,rfl,hid ⟨HRH.out,Below.refl _ _⟩⟩
 case round =>
  obtain ⟨k,hk,rfl,HT⟩:=hrel
  have HRW:=hid HT.out.1
  have HBW:=hid HT.out.2
  have hszw:=HBW.out.size
  clear HT
  by_cases hlt:k<s.clients.length
  ·obtain ⟨x,hx⟩:∃ x,s.clients[k]?=some x:=⟨_,List.getElem?_eq_getElem hlt⟩
   have hlt':(k:Int)<(s.clients.length:Int):=by omega
   obtain ⟨g,rq,r,rfl,hgb,hgl,hq1,hq2,hq3,hq4,hq5,hc,hfz⟩:=HRW.out.at hx
   obtain ⟨dv,rfl,hdv⟩:=hq4
   obtain ⟨ka,ma,rfl,-⟩:=hdv.shape
   have f0:=hc 0 _ rfl
   have f1:=hc 1 _ rfl
   have f2:=hc 2 _ rfl
   have f3:=hc 3 _ rfl
   simp only [Nat.add_zero] at f0
   obtain ⟨w3,hw3⟩:∃ w3,wr.alloc (.cells #[.string x.chain,.int .i64 x.trust,.bool x.frozen,.slice ka x.known.length ma] 72)=w3:=⟨_,rfl⟩
   have hb3:=bof hw3
   have HR3:=hid (QaL hw3)
   have HB3:=hid hb3
   have HC3:=hid (show w3.cell? ⟨g,k*4,none⟩=some (.string x.chain)∧w3.cell? ⟨g,k*4+1,none⟩=some (.int .i64 x.trust)∧w3.cell? ⟨g,k*4+2,none⟩=some (.bool x.frozen)∧w3.cell? ⟨g,k*4+3,none⟩=some (.slice ka x.known.length ma) from ⟨(hb3.cell hgl).trans f0,(hb3.cell hgl).trans f1,(hb3.cell hgl).trans f2,(hb3.cell hgl).trans f3⟩)
   have HF3:=hid (show ∀ o,w3.frozen? ⟨g,o,none⟩=false from fun o=>(World.frozen?_of_block (a:=⟨g,o,none⟩) (hb3.block g hgl)).trans (hfz o))
   have HV3:=hid (show ClV w3 wr.heap.size (.agg #[.string x.chain,.int .i64 x.trust,.bool x.frozen,.slice ka x.known.length ma]) x from ⟨_,rfl,hdv.below hb3⟩)
   have HXF:=hid (HCF.out x (List.mem_of_getElem? hx))
   have hkn:=HCK.out x (List.mem_of_getElem? hx)
   have HRS:=hid ((HR2.out.below HBW.out (by omega)).below hb3 (by omega))
   have HQ1:=hid hq1
   have HQ2:=hid hq2
   have HQ3:=hid hq3
   have HQ5:=hid hq5
   have HX:=hid hx
   have HW3:=hid hw3
   have hgl3:g<w3.heap.size:=Nat.lt_of_lt_of_le hgl hb3.size
   clear hb3 hw3 hq1 hq2 hq3 hq5 hx hc hfz hdv
   go_upto_region 5 with fail
   rw [HW3.out]
   clear f0 f1 f2 f3
   refine Qj4 s x k s.clients.length g e1 ma ka o2 o3 o4 o5 o6 o7 c2 c3 c4 c5 c6 c7 (N:=wr.heap.size) HB3.out.size HRS HR3 hlt' hgl3 HC3 HF3 HV3 HXF hkn _ (hid ?_)
   intro σ o m ps w4 hb4 hown hps
   have hbx:Below wr.heap.size wr w4:=HB3.out.trans (hb4.mono HB3.out.size)
   have HOW:=hid (show QL (fun b=>b≠g∧(b<N∨w0.heap.size≤b)∧b<w4.heap.size) w4 (fun wz=>ClR wz wz.heap.size [.string x.chain,.int .i64 x.trust,.bool x.frozen,.slice o ps.length m] x) from
    ⟨fun b hb=>hb.2.2,fun wz hz hkk=>⟨_,rfl,by rw [← hps];exact hown.held.2 wz hz fun b hF=>hkk b ⟨by omega,.inr (by have:=HB3.out.size;omega),hF.2⟩⟩⟩)
   have hput:=(HQ2.out.below hbx).put (i:=k) (r:=[.string x.chain,.int .i64 x.trust,.bool x.frozen,.slice o ps.length m]) (by rw [HQ1.out];exact hlt) ⟨rfl,fun y hy=>by simp at hy;rcases hy with rfl | rfl | rfl | rfl <;> rfl⟩
   have HNR:=hid (Jt.put (t:=72) (R:=ClR) (k:=4) (N:=N) (base:=w0.heap.size) (n:=s.clients.length) (c:=e1) HQ1.out (fun j r y hr hy=>((HQ5.out j r y hr hy).below hbx).wide (fun b hF=>⟨hF.1,hF.2.1,Nat.lt_of_lt_of_le hF.2.2 hbx.size⟩) (fun b hF=>hF.2.2)) HX.out HOW.out (Zs w4 g (k*4) [.string x.chain,.int .i64 x.trust,.bool x.frozen,.slice o ps.length m]) hput)
   have HNB:=hid (show Below w0.heap.size w2 (w4.setCells g (k*4) [.string x.chain,.int .i64 x.trust,.bool x.frozen,.slice o ps.length m]) from JP hgb _ _ _ (HBW.out.trans (hbx.mono (by omega))))
   clear hb4 hown hps hbx hput HOW HQ1 HQ2 HQ3 HQ5 HX
   go_wp2
   go_roundw
   case rel=>exact ⟨k+1,by omega,by go_num,hid ⟨HNR.out,HNB.out⟩⟩
   case measure=>simp [intOf];omega
  ·have hge:decide ((k:Int)<(s.clients.length:Int))=false:=by simp;omega
   have HR3:=hid (HR2.out.below HBW.out (by omega))
   have HZ3:=hid (HZ2.out.below HBW.out (by omega))
   have HB3:=hid (show Below w.heap.size w wr from HB2.out.trans (HBW.out.mono (by omega)))
   have H1:=hid HRW.out.held
   go_upto_region 7 with fail
   refine Qj5 s q1 o2 o3 o4 o5 o6 o7 e1 c2 c3 c4 c5 c6 c7 (.slice o1 s.clients.length c1) (N:=N) (by omega) HR3 (hid (HM.out _ HB3.out)) HFEW.out _ (hid ?_)
   intro σ v2 v3 v7 w4 hb4 h2 h3 h7
   obtain ⟨q2,e2,rfl,-⟩:=h2.shape
   obtain ⟨q3,e3,rfl,-⟩:=h3.shape
   obtain ⟨q7,e7,rfl,-⟩:=h7.shape
   have n2:=fun b e=>(h2.own b e).2
   have n3:=fun b e=>(h3.own b e).2
   have n7:=fun b e=>(h7.own b e).2
   have H2:=hid h2
   have H3:=hid h3
   have H7:=hid h7
   have H1':=hid (H1.out.below hb4)
   have hr4:=HR3.out.below hb4 HR3.out.lt
   have hz4:=HZ3.out.below hb4 HZ3.out.lt
   simp only [List.length_map] at H2 H3 H7 n2 n3 n7 ⊢
   obtain ⟨w5,hw5⟩:∃ w5,((w4.setCell ⟨w.heap.size,4,none⟩ (.slice q2 s.conns.length e2)).setCell ⟨w.heap.size,5,none⟩ (.slice q3 s.chans.length e3)).setCell ⟨w.heap.size,9,none⟩ (.slice q7 s.purses.length e7)=w5:=⟨_,rfl⟩
   have hs5:w5.heap.size=w4.heap.size:=by rw [← hw5];simp [World.setCell]
   have ho5:∀ b,b≠w.heap.size→w5.heap[b]?=w4.heap[b]?:=fun b hb=>by rw [← hw5];exact (Below.heap_setCell _ _ _ _ hb).trans ((Below.heap_setCell _ _ _ _ hb).trans (Below.heap_setCell _ _ _ _ hb))
   have hbb5:Below 0 w4 w5:=by rw [← hw5];exact (((Below.refl 0 w4).setCell (Nat.zero_le _) _).setCell (Nat.zero_le _) _).setCell (Nat.zero_le _) _
   have HR5:=hid (show Row w5 w.heap.size 28 [.string s.name,.int .i64 s.height,.int .i64 s.time,.slice q1 s.clients.length e1,.slice q2 s.conns.length e2,.slice q3 s.chans.length e3,.slice o4 s.sent.length c4,.slice o5 s.got.length c5,.slice o6 s.acks.length c6,.slice q7 s.purses.length e7] by rw [← hw5];exact ((hr4.set 4 _).set 5 _).set 9 _)
   have HZ5:=hid (show Row w5 (w.heap.size+1) 28 [.string ⟨#[]⟩,.int .i64 0,.int .i64 0,.slice none 0 0,.slice none 0 0,.slice none 0 0,.slice none 0 0,.slice none 0 0,.slice none 0 0,.slice none 0 0] by rw [← hw5];exact ((hz4.other _ (by simp)).other _ (by simp)).other _ (by simp))
   have HB5:=hid (show Below w.heap.size w w5 by rw [← hw5];exact (((HB3.out.trans (hb4.mono HB3.out.size)).setCell (Nat.le_refl _) _).setCell (Nat.le_refl _) _).setCell (Nat.le_refl _) _)
   have hw45:=hb4.size
   have G1:=hid (H1'.out.on hbb5 (fun b hF=>ho5 b (by omega)))
   have G2:=hid (show QV 60 Je 4 w5 wr.heap.size (.slice q2 s.conns.length e2) s.conns from QV.keep H2.out (fun b e=>ho5 b (by have:=(Qs.own H2.out b e).1;omega)))
   have G3:=hid (show QV 54 Qh 7 w5 wr.heap.size (.slice q3 s.chans.length e3) s.chans from QV.keep H3.out (fun b e=>ho5 b (by have:=(Qs.own H3.out b e).1;omega)))
   have G7:=hid (show QV 75 Jy 3 w5 wr.heap.size (.slice q7 s.purses.length e7) s.purses from QV.keep H7.out (fun b e=>ho5 b (by have:=(Qs.own H7.out b e).1;omega)))
   rw [hw5]
   clear h2 h3 h7 H2 H3 H7 H1' hr4 hz4 hw5 ho5 hbb5 hb4
   go_upto_region 8 with fail
   refine Qj6 s q1 q2 q3 q7 o4 o5 o6 e1 s.conns.length e2 s.chans.length e3 s.purses.length e7 c4 c5 c6 (.slice o1 s.clients.length c1) (.slice o2 s.conns.length c2) (.slice o3 s.chans.length c3) (.slice o7 s.purses.length c7) (N:=N) (by omega) HR5 (hid (HM.out _ HB5.out)) HFEW.out HMF _ (hid ?_)
   intro τ p4 p5 p6 d4 d5 d6 w6 hb6 h4 h5 h6
   have hr6:=HR5.out.below hb6 HR5.out.lt
   have hz6:=HZ5.out.below hb6 HZ5.out.lt
   obtain ⟨w7,hw7⟩:∃ w7,((w6.setCell ⟨w.heap.size,6,none⟩ (.slice p4 s.sent.length d4)).setCell ⟨w.heap.size,7,none⟩ (.slice p5 s.got.length d5)).setCell ⟨w.heap.size,8,none⟩ (.slice p6 s.acks.length d6)=w7:=⟨_,rfl⟩
   have hs7:w7.heap.size=w6.heap.size:=by rw [← hw7];simp [World.setCell]
   have ho7:∀ b,b≠w.heap.size→w7.heap[b]?=w6.heap[b]?:=fun b hb=>by rw [← hw7];exact (Below.heap_setCell _ _ _ _ hb).trans ((Below.heap_setCell _ _ _ _ hb).trans (Below.heap_setCell _ _ _ _ hb))
   have hbb7:Below 0 w6 w7:=by rw [← hw7];exact (((Below.refl 0 w6).setCell (Nat.zero_le _) _).setCell (Nat.zero_le _) _).setCell (Nat.zero_le _) _
   have HR7:=hid (show Row w7 w.heap.size 28 [.string s.name,.int .i64 s.height,.int .i64 s.time,.slice q1 s.clients.length e1,.slice q2 s.conns.length e2,.slice q3 s.chans.length e3,.slice p4 s.sent.length d4,.slice p5 s.got.length d5,.slice p6 s.acks.length d6,.slice q7 s.purses.length e7] by rw [← hw7];exact ((hr6.set 6 _).set 7 _).set 8 _)
   have HZ7:=hid (show Row w7 (w.heap.size+1) 28 [.string ⟨#[]⟩,.int .i64 0,.int .i64 0,.slice none 0 0,.slice none 0 0,.slice none 0 0,.slice none 0 0,.slice none 0 0,.slice none 0 0,.slice none 0 0] by rw [← hw7];exact ((hz6.other _ (by simp)).other _ (by simp)).other _ (by simp))
   have HB7:=hid (show Below w.heap.size w w7 by rw [← hw7];exact (((HB5.out.trans (hb6.mono HB5.out.size)).setCell (Nat.le_refl _) _).setCell (Nat.le_refl _) _).setCell (Nat.le_refl _) _)
   have hw67:=hb6.size
   have WD:∀ P,QL (fun b=>(b<N∨w5.heap.size≤b)∧b<w6.heap.size) w6 P→QL (fun b=>(b<N∨w5.heap.size≤b)∧b<w7.heap.size) w7 P:=fun P hP=>(hP.on hbb7 (fun b hF=>ho7 b (by omega))).wide (fun b hF=>⟨hF.1,by omega⟩) (fun b hF=>hF.2)
   have HOWN:=hid (show Q7 N w0.heap.size w7 s (.slice q1 s.clients.length e1) (.slice q2 s.conns.length e2) (.slice q3 s.chans.length e3) (.slice p4 s.sent.length d4) (.slice p5 s.got.length d5) (.slice p6 s.acks.length d6) (.slice q7 s.purses.length e7) from
    Q7.make (m1:=wr.heap.size) (m2:=w5.heap.size) hN0 ⟨by omega,by omega⟩ ((G1.out.below hb6).on hbb7 (fun b hF=>ho7 b (by omega)))
     (QV.keep (G2.out.below hb6) (fun b e=>ho7 b (by have:=(Qs.own G2.out b e).1;omega))) (QV.keep (G3.out.below hb6) (fun b e=>ho7 b (by have:=(Qs.own G3.out b e).1;omega))) (QV.keep (G7.out.below hb6) (fun b e=>ho7 b (by have:=(Qs.own G7.out b e).1;omega)))
     (fun b e=>by have:=n2 b e;omega) (fun b e=>by have:=n3 b e;omega) (fun b e=>by have:=n7 b e;omega) (WD _ h4) (WD _ h5) (WD _ h6))
   rw [hw7]
   clear h4 h5 h6 hr6 hz6 hw7 ho7 hbb7 hb6 WD G1 G2 G3 G7 n2 n3 n7
   obtain ⟨w8,hw8⟩:∃ w8,w7.setRow (w.heap.size+1) #[.string s.name,.int .i64 s.height,.int .i64 s.time,.slice q1 s.clients.length e1,.slice q2 s.conns.length e2,.slice q3 s.chans.length e3,.slice p4 s.sent.length d4,.slice p5 s.got.length d5,.slice p6 s.acks.length d6,.slice q7 s.purses.length e7]=w8:=⟨_,rfl⟩
   have HR8:=hid (show Row w8 (w.heap.size+1) 28 [.string s.name,.int .i64 s.height,.int .i64 s.time,.slice q1 s.clients.length e1,.slice q2 s.conns.length e2,.slice q3 s.chans.length e3,.slice p4 s.sent.length d4,.slice p5 s.got.length d5,.slice p6 s.acks.length d6,.slice q7 s.purses.length e7] by rw [← hw8];exact Row.setRow HZ7.out _)
   have HB8:=hid (show Below w.heap.size w w8 by rw [← hw8];exact below_setRow HB7.out (by omega) _)
   have HO8:=hid (HOWN.out.on (w':=w8) (by rw [← hw8];exact below_setRow (Below.refl 0 w7) (Nat.zero_le _) _) (fun b _ hlt=>by rw [← hw8];exact setRow_other _ _ _ _ (by omega)))
   have HW8:=hid hw8
   have HHZ:=hid (show w7.heap[w.heap.size+1]?=some (.cells #[.string ⟨#[]⟩,.int .i64 0,.int .i64 0,.slice none 0 0,.slice none 0 0,.slice none 0 0,.slice none 0 0,.slice none 0 0,.slice none 0 0,.slice none 0 0] 28 (0,0)) from HZ7.out)
   have HIZ:=hid (show (Tryz.prog.info? 28).map (·.size)=some 10 by kernel_rfl)
   have HON:=hid (show (#[.string s.name,.int .i64 s.height,.int .i64 s.time,.slice q1 s.clients.length e1,.slice q2 s.conns.length e2,.slice q3 s.chans.length e3,.slice p4 s.sent.length d4,.slice p5 s.got.length d5,.slice p6 s.acks.length d6,.slice q7 s.purses.length e7]:Array Value).all (·.oneCell')=true by simp [Value.oneCell'])
   obtain ⟨k0,k1,k2,k3,k4,k5,k6,k7,k8,k9⟩:=HR7.out.c10
   clear hw8
   go_wp2_with (refine wpList_store_row rfl 28 (.tmp 2) (.tmp 48) rfl (w.heap.size+1) #[.string s.name,.int .i64 s.height,.int .i64 s.time,.slice q1 s.clients.length e1,.slice q2 s.conns.length e2,.slice q3 s.chans.length e3,.slice p4 s.sent.length d4,.slice p5 s.got.length d5,.slice p6 s.acks.length d6,.slice q7 s.purses.length e7] rfl rfl 28 #[.string ⟨#[]⟩,.int .i64 0,.int .i64 0,.slice none 0 0,.slice none 0 0,.slice none 0 0,.slice none 0 0,.slice none 0 0,.slice none 0 0,.slice none 0 0] HHZ.out HIZ.out rfl HON.out ?_)
   rw [HW8.out]
   obtain ⟨y0,y1,y2,y3,y4,y5,y6,y7,y8,y9⟩:=HR8.out.c10
   exact bodyPost_ret (v:=.agg #[.string s.name,.int .i64 s.height,.int .i64 s.time,.slice q1 s.clients.length e1,.slice q2 s.conns.length e2,.slice q3 s.chans.length e3,.slice p4 s.sent.length d4,.slice p5 s.got.length d5,.slice p6 s.acks.length d6,.slice q7 s.purses.length e7]) (by simp [results,Tryz.results57,go_sem,y0,y1,y2,y3,y4,y5,y6,y7,y8,y9]) rfl ⟨HB8.out,q1,e1,q2,e2,q3,e3,p4,d4,p5,d5,p6,d6,q7,e7,rfl,HO8.out.lower (by omega)⟩
structure Sh where
 height:Int
 prf:Prf
 gap:Gp
def Sh.fits (h:Sh):Prop:=h.prf.fits∧h.gap.fits
def ShV (w:World) (N:Nat) (v:Value) (h:Sh):Prop:=∃ x1 x2 x3 k1 v1 t1 k2 v2 t2,v=.agg #[.int .i64 h.height,.int .i64 h.prf.index,.int .i64 h.prf.size,x1,x2,x3,.bool h.gap.hasL,.bool h.gap.hasR,.int .i64 h.gap.left.index,.int .i64 h.gap.left.size,k1,v1,t1,.int .i64 h.gap.right.index,.int .i64 h.gap.right.size,k2,v2,t2] ∧
 Qa3 w N (.agg #[.int .i64 h.prf.index,.int .i64 h.prf.size,x1,x2,x3]) h.prf∧GpV w N (.agg #[.bool h.gap.hasL,.bool h.gap.hasR,.int .i64 h.gap.left.index,.int .i64 h.gap.left.size,k1,v1,t1,.int .i64 h.gap.right.index,.int .i64 h.gap.right.size,k2,v2,t2]) h.gap
theorem ShV.below {w w':World} {N:Nat} {v:Value} {h:Sh} (hv:ShV w N v h) (hg:Below N w w'):ShV w' N v h:=by
 obtain ⟨x1,x2,x3,k1,v1,t1,k2,v2,t2,e,hp,hq⟩:=hv
 exact ⟨x1,x2,x3,k1,v1,t1,k2,v2,t2,e,hp.below hg,hq.below hg⟩
theorem ShV.mono {w:World} {N M:Nat} {v:Value} {h:Sh} (hv:ShV w N v h) (hN:N≤M):ShV w M v h:=by
 obtain ⟨x1,x2,x3,k1,v1,t1,k2,v2,t2,e,hp,hq⟩:=hv
 exact ⟨x1,x2,x3,k1,v1,t1,k2,v2,t2,e,hp.mono hN,hq.mono hN⟩
theorem ShV.open {w:World} {N:Nat} {v:Value} {h:Sh} (hv:ShV w N v h):∃ q1 e1 q2 e2 q3 e3 r1 s1 r2 s2 r3 s3 r4 s4 r5 s5 r6 s6,
  v=.agg #[.int .i64 h.height,.int .i64 h.prf.index,.int .i64 h.prf.size,.slice q1 h.prf.key.length e1,.slice q2 h.prf.val.length e2,.slice q3 h.prf.path.length e3,.bool h.gap.hasL,.bool h.gap.hasR,.int .i64 h.gap.left.index,.int .i64 h.gap.left.size,.slice r1 h.gap.left.key.length s1,.slice r2 h.gap.left.val.length s2,.slice r3 h.gap.left.path.length s3,.int .i64 h.gap.right.index,.int .i64 h.gap.right.size,.slice r4 h.gap.right.key.length s4,.slice r5 h.gap.right.val.length s5,.slice r6 h.gap.right.path.length s6] ∧
  Qa3 w N (.agg #[.int .i64 h.prf.index,.int .i64 h.prf.size,.slice q1 h.prf.key.length e1,.slice q2 h.prf.val.length e2,.slice q3 h.prf.path.length e3]) h.prf:=by
 obtain ⟨x1,x2,x3,k1,v1,t1,k2,v2,t2,rfl,hp,hq⟩:=hv
 have hp':=hp
 obtain ⟨a1,a2,a3,ea,b1,b2,b3⟩:=hp
 obtain ⟨c1,c2,c3,c4,c5,c6,eb,d1,d2,d3,d4,d5,d6⟩:=hq
 simp at ea eb
 obtain ⟨rfl,rfl,rfl⟩:=ea
 obtain ⟨rfl,rfl,rfl,rfl,rfl,rfl⟩:=eb
 obtain ⟨q1,e1,rfl,-⟩:=b1.shape
 obtain ⟨q2,e2,rfl,-⟩:=b2.shape
 obtain ⟨q3,e3,rfl,-⟩:=b3.shape
 obtain ⟨r1,s1,rfl,-⟩:=d1.shape
 obtain ⟨r2,s2,rfl,-⟩:=d2.shape
 obtain ⟨r3,s3,rfl,-⟩:=d3.shape
 obtain ⟨r4,s4,rfl,-⟩:=d4.shape
 obtain ⟨r5,s5,rfl,-⟩:=d5.shape
 obtain ⟨r6,s6,rfl,-⟩:=d6.shape
 exact ⟨_,_,_,_,_,_,_,_,_,_,_,_,_,_,_,_,_,_,rfl,hp'⟩
def Qji (s:St) (c:Int):Cl:=(s.clients[c.toNat]?).getD Cl.none
def ZP (s:St) (i:Int):Cn:=(s.conns[i.toNat]?).getD ⟨0,0,0,0⟩
theorem QbW {s:St} {k:Nat} {x:Cl} (h:s.clients[k]?=some x):Qji s (k:Int)=x:=by unfold Qji;rw [Int.toNat_natCast,h];rfl
theorem ZY {s:St} {k:Nat} {x:Cn} (h:s.conns[k]?=some x):ZP s (k:Int)=x:=by unfold ZP;rw [Int.toNat_natCast,h];rfl
def YZ (s:St) (c:Int):Int:=if c<0∨(s.clients.length:Int)≤c then 6 else if QM (Qji s c) s.time=false then 12 else 0
theorem Qah {s:St} {c:Int} (h:c<0∨(s.clients.length:Int)≤c):YZ s c=6:=if_pos h
theorem Qfc {s:St} {c:Int} (h:YZ s c=0):0≤c∧c<(s.clients.length:Int):=by
 unfold YZ at h
 split at h
 ·cases h
 ·omega
theorem Qfb {s:St} {k:Nat} {x:Cl} (h:s.clients[k]?=some x):YZ s (k:Int)=if QM x s.time=false then 12 else 0:=by
 have:=(List.getElem?_eq_some_iff.1 h).1
 unfold YZ
 rw [if_neg (by omega),QbW h]
def JB (s:St) (c:Int) (h:Sh) (key val:List (BitVec 8)) (z:Int):Prop:=JO (Qji s c) s.time h.height (fun r=>h.prf.key=key∧h.prf.val=val∧Y5 r h.prf) z
theorem QaS {s:St} (h:Qk s=0):JI s.name=true∧(Qn 0 s.height=true∧Qn 0 s.time=true)∧Qcg s=false∧Ym s=0:=by
 unfold Qk at h
 split at h
 ·cases h
 split at h
 ·cases h
 split at h
 ·cases h
 rename_i h1 h2 h3
 refine ⟨by simpa using h1,?_,by simpa using h3,h⟩
 cases e1:Qn 0 s.height <;> cases e2:Qn 0 s.time <;> simp_all
theorem ZU {s:St} (h:Qk s=0):∀ c∈s.clients,Qg c=0:=by
 have h':=(Qev _).1 (QaS h).2.2.2
 simp only [List.mem_cons,List.not_mem_nil,or_false,forall_eq_or_imp,forall_eq] at h'
 exact (Qaf _ _).1 h'.1
theorem QD {s:St} (h:Qk s=0):few s:=by
 have h3:=(QaS h).2.2.1
 unfold Qcg at h3
 have h4:=of_decide_eq_false h3
 exact ⟨by omega,by omega,by omega,by omega,by omega,by omega,by omega,fun c hc=>by have:=((QaR c).1 (ZU h c hc)).2.2.1;omega⟩
theorem Qcp {s:St} (h:Qk s=0):0≤s.time∧s.time≤1000000000000:=(YN _ _).1 (QaS h).2.1.2
def Qv (N base:Nat) (w:World) (v:Value) (t:St):Prop:=QL (fun b=>(b<N∨base≤b)∧b<w.heap.size) w (fun w2=>StV w2 w2.heap.size v t)
theorem Qv.now {N base:Nat} {w:World} {v:Value} {t:St} (h:Qv N base w v t):StV w w.heap.size v t:=QL.now h
theorem Qv.on {N base:Nat} {w w2:World} {v:Value} {t:St} (h:Qv N base w v t) (hb:Below 0 w w2) (hk:∀ b,b<w.heap.size→b<N∨base≤b→w2.heap[b]?=w.heap[b]?):Qv N base w2 v t :=
 (QL.on h hb (fun b hF=>hk b hF.2 hF.1)).wide (fun _ hF=>⟨hF.1,Nat.lt_of_lt_of_le hF.2 hb.size⟩) (fun _ hF=>hF.2)
theorem Qv.below {N base:Nat} {w w2:World} {v:Value} {t:St} (h:Qv N base w v t) (hb:Below w.heap.size w w2):Qv N base w2 v t:=h.on (hb.mono (Nat.zero_le _)) (fun b hlt _=>hb.block b hlt)
theorem Qv.lower {N base base':Nat} {w:World} {v:Value} {t:St} (h:Qv N base w v t) (hb:base'≤base):Qv N base' w v t:=QL.wide h (fun _ hF=>⟨hF.1.imp id (Nat.le_trans hb),hF.2⟩) (fun _ hF=>hF.2)
theorem Qap {B g:Nat} {w0 w:World} (hb:Below B w0 w) (hg:B≤g) (cs:Array Value):Below B w0 (w.setRow g cs):=hb.trans ⟨rfl,rfl,rfl,by simp,fun k hk=>setRow_other w g k cs (by omega)⟩
theorem Qv.row {N base:Nat} {w:World} {v:Value} {t:St} (h:Qv N base w v t) {g:Nat} (h1:N≤g) (h2:g<base) (cs:Array Value):Qv N base (w.setRow g cs) v t :=
 h.on (Qap (Below.refl 0 w) (Nat.zero_le _) cs) (fun b _ hlt=>setRow_other w g b cs (by omega))
theorem Qv.setCell {N base:Nat} {w:World} {v:Value} {t:St} (h:Qv N base w v t) {a:Addr} (h1:N≤a.block) (h2:a.block<base) (x:Value):Qv N base (w.setCell a x) v t :=
 h.on ((Below.refl 0 w).setCell (Nat.zero_le _) x) (fun b _ hlt=>Below.heap_setCell _ _ _ _ (by omega))
theorem QiW (w:World) (N:Nat):StV w N (.agg #[.string ⟨#[]⟩,.int .i64 0,.int .i64 0,.slice none 0 0,.slice none 0 0,.slice none 0 0,.slice none 0 0,.slice none 0 0,.slice none 0 0,.slice none 0 0]) St.none:=⟨_,_,_,_,_,_,_,rfl,QB.nil _ _ _ _,QB.nil _ _ _ _,QB.nil _ _ _ _,QB.nil _ _ _ _,QB.nil _ _ _ _,QB.nil _ _ _ _,QB.nil _ _ _ _⟩
theorem Qi (N base:Nat) (w:World):Qv N base w (.agg #[.string ⟨#[]⟩,.int .i64 0,.int .i64 0,.slice none 0 0,.slice none 0 0,.slice none 0 0,.slice none 0 0,.slice none 0 0,.slice none 0 0,.slice none 0 0]) St.none:=⟨fun _ h=>h.2,fun w2 _ _=>QiW w2 _⟩
theorem Q7.holds {N base:Nat} {w:World} {t:St} {v1 v2 v3 v4 v5 v6 v7:Value} (h:Q7 N base w t v1 v2 v3 v4 v5 v6 v7):Qv N base w (.agg #[.string t.name,.int .i64 t.height,.int .i64 t.time,v1,v2,v3,v4,v5,v6,v7]) t :=
 ⟨fun _ hb=>hb.2,fun _ hb hk=>⟨v1,v2,v3,v4,v5,v6,v7,rfl,(h.on hb (fun b hlt hr=>hk b ⟨hr,hlt⟩)).mem⟩⟩
end Go.Proofs.YtbgdpfeobklnhaaGreatDoor
