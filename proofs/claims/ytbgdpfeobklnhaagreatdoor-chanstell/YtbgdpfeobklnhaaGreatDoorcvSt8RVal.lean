/-
  The document's Conn and Chan: the bytes of connections and channels.
-/
import Derived.Test.YtbgdpfeobklnhaaGreatDoorcvSt8RKey
import Derived.Test.YtbgdpfeobklnhaaGreatDoorcvHdCheck
namespace Go.Proofs.YtbgdpfeobklnhaaGreatDoor
set_option maxRecDepth 1000000
set_option maxHeartbeats 8000000
open Go.RowKit
theorem Qc1 (l:List Int) (h:∀ n∈l,n.toNat<18446744073709551616):∀ p∈l.map ZH,p.fits:=by
 intro p hp
 obtain ⟨n,hn,rfl⟩:=List.mem_map.1 hp
 exact ⟨h n hn,Nat.zero_le _⟩
theorem Qbb {y0 y4 y5 z2 z6 z7 z8 z9 A0 A1 A2 A3 A4 A5 A6 A7 A8 A9:Value} {g:Nat} (a b c q:Nat) (bo:Bool) (y sd rv ak:Int) (x:List (BitVec 8)) {w:World} (hr:Hid (Row w g 54 [.int .i64 (a:Int),.bool bo,.int .i64 (c:Int),.int .i64 y,.int .i64 sd,.int .i64 rv,.int .i64 ak])) (_ha:a<9223372036854775808) (hb:b<9223372036854775808) (_hc:c<9223372036854775808) (hq:q<9223372036854775808) (hq:IntKind.i64.wrap (y+1)=(q:Int)) (hx:Hid (ZN [⟨1,a,[]⟩,⟨1,b,[]⟩,⟨1,c,[]⟩,⟨1,q,[]⟩]=.ok x)) (hfit:Hid (∀ p∈([⟨1,a,[]⟩,⟨1,b,[]⟩,⟨1,c,[]⟩,⟨1,q,[]⟩]:List Pc),p.fits)) (Q:Exit→Act→World→Prop)
  (hQ:Hid (∀ (σ:Nat→Value) (w':World),Below w.heap.size w w'→/-14-/ Bytes w' w'.heap.size (σ 14) x→Q .normal ⟨#[y0,.pointer (some ⟨g,0,none⟩),σ 14,.int .i64 (b:Int),y4,y5,σ 0,σ 1,σ 2,σ 3,σ 4,σ 5,σ 6,σ 7,σ 8,σ 9,σ 10,σ 11,σ 12,σ 13],[]⟩ w')) :
  Code.wp Tryz.prog (.region 4 ((Tryz.f29.body.bind (Q3 4)).getD #[]) true) Q ⟨#[y0,.pointer (some ⟨g,0,none⟩),z2,.int .i64 (b:Int),y4,y5,z6,z7,z8,z9,A0,A1,A2,A3,A4,A5,A6,A7,A8,A9],[]⟩ w:=by
 conv=>arg 2;arg 2;whnf
 conv=>arg 4;dsimp only
 refine QT (by kernel_rfl) (fun σ=>#[y0,.pointer (some ⟨g,0,none⟩),σ 14,.int .i64 (b:Int),y4,y5,σ 0,σ 1,σ 2,σ 3,σ 4,σ 5,σ 6,σ 7,σ 8,σ 9,σ 10,σ 11,σ 12,σ 13]) (fun i=>([z6,z7,z8,z9,A0,A1,A2,A3,A4,A5,A6,A7,A8,A9,z2]:List Value).getD i undef) rfl (fun i X W=>match i with
  | 0=>X=.pointer (some ⟨g,0,none⟩)
  | 1=>X=.int .i64 (a:Int)
  | 2=>X=.agg #[.int .i64 1,.int .u64 (a:Int),.slice none 0 0]
  | 3=>X=.int .i64 (b:Int)
  | 4=>X=.agg #[.int .i64 1,.int .u64 (b:Int),.slice none 0 0]
  | 5=>X=.pointer (some ⟨g,2,none⟩)
  | 6=>X=.int .i64 (c:Int)
  | 7=>X=.agg #[.int .i64 1,.int .u64 (c:Int),.slice none 0 0]
  | 8=>X=.pointer (some ⟨g,3,none⟩)
  | 9=>X=.int .i64 y
  | 10=>X=.int .i64 (q:Int)
  | 11=>X=.agg #[.int .i64 1,.int .u64 (q:Int),.slice none 0 0]
  | 12=>JM W W.heap.size X [⟨1,a,[]⟩,⟨1,b,[]⟩,⟨1,c,[]⟩,⟨1,q,[]⟩]
  | 13=>Bytes W W.heap.size X x
  | 14=>Bytes W W.heap.size X x
  | _=>True) ?_ (by kernel_rfl) ?_ ?_
 ·intro i X W W' HB H
  match i,H with
  | 0,H=>exact H
  | 1,H=>exact H
  | 2,H=>exact H
  | 3,H=>exact H
  | 4,H=>exact H
  | 5,H=>exact H
  | 6,H=>exact H
  | 7,H=>exact H
  | 8,H=>exact H
  | 9,H=>exact H
  | 10,H=>exact H
  | 11,H=>exact H
  | 12,H=>exact (H.below HB).mono HB.size
  | 13,H=>exact (H.below HB).mono HB.size
  | 14,H=>exact (H.below HB).mono HB.size
  | _+15,_=>exact trivial
 ·refine ⟨?_,?_,?_,?_,?_,?_,?_,?_,?_,?_,?_,?_,?_,?_,?_,trivial⟩
  ·
   intro σ W HJ hdep
   simp [Region.binds] at hdep
   have HJ:=hid HJ
   refine Qa rfl rfl ?_
   go_simp
   exact Ql.mk0 (.pointer (some ⟨g,0,none⟩)) (by first | rfl | simp [Qe, *]) HJ.out rfl
  ·
   intro σ W HJ hdep
   simp [Region.binds] at hdep
   have HJ:=hid HJ
   have k:=(rg hr HJ).cell 0
   simp at k
   refine Qa rfl rfl ?_
   go_simp
   exact Ql.mk0 (.int .i64 (a:Int)) (by first | rfl | simp [Qe, *]) HJ.out rfl
  ·
   intro σ W HJ hdep
   simp [Region.binds] at hdep
   have HJ:=hid HJ
   refine Qa rfl rfl ?_
   go_simp
   refine (QbJ a W (by omega)).mono ?_
   rintro e w2 ⟨rfl,hb2⟩
   exact Ql.mk (.agg #[.int .i64 1,.int .u64 (a:Int),.slice none 0 0]) (by first | rfl | simp [Qe, *]) hb2 HJ.out rfl
  ·
   intro σ W HJ hdep
   simp [Region.binds] at hdep
   have HJ:=hid HJ
   refine Qa rfl rfl ?_
   go_simp
   exact Ql.mk0 (.int .i64 (b:Int)) (by first | rfl | simp [Qe, *]) HJ.out rfl
  ·
   intro σ W HJ hdep
   simp [Region.binds] at hdep
   have HJ:=hid HJ
   refine Qa rfl rfl ?_
   go_simp
   refine (QbJ b W (by omega)).mono ?_
   rintro e w2 ⟨rfl,hb2⟩
   exact Ql.mk (.agg #[.int .i64 1,.int .u64 (b:Int),.slice none 0 0]) (by first | rfl | simp [Qe, *]) hb2 HJ.out rfl
  ·
   intro σ W HJ hdep
   simp [Region.binds] at hdep
   have HJ:=hid HJ
   refine Qa rfl rfl ?_
   go_simp
   exact Ql.mk0 (.pointer (some ⟨g,2,none⟩)) (by first | rfl | simp [Qe, *]) HJ.out rfl
  ·
   intro σ W HJ hdep
   simp [Region.binds] at hdep
   have HJ:=hid HJ
   have k:=(rg hr HJ).cell 2
   simp at k
   refine Qa rfl rfl ?_
   go_simp
   exact Ql.mk0 (.int .i64 (c:Int)) (by first | rfl | simp [Qe, *]) HJ.out rfl
  ·
   intro σ W HJ hdep
   simp [Region.binds] at hdep
   have HJ:=hid HJ
   refine Qa rfl rfl ?_
   go_simp
   refine (QbJ c W (by omega)).mono ?_
   rintro e w2 ⟨rfl,hb2⟩
   exact Ql.mk (.agg #[.int .i64 1,.int .u64 (c:Int),.slice none 0 0]) (by first | rfl | simp [Qe, *]) hb2 HJ.out rfl
  ·
   intro σ W HJ hdep
   simp [Region.binds] at hdep
   have HJ:=hid HJ
   refine Qa rfl rfl ?_
   go_simp
   exact Ql.mk0 (.pointer (some ⟨g,3,none⟩)) (by first | rfl | simp [Qe, *]) HJ.out rfl
  ·
   intro σ W HJ hdep
   simp [Region.binds] at hdep
   have HJ:=hid HJ
   have k:=(rg hr HJ).cell 3
   simp at k
   refine Qa rfl rfl ?_
   go_simp
   exact Ql.mk0 (.int .i64 y) (by first | rfl | simp [Qe, *]) HJ.out rfl
  ·
   intro σ W HJ hdep
   simp [Region.binds] at hdep
   have HJ:=hid HJ
   refine Qa rfl rfl ?_
   go_simp
   exact Ql.mk0 (.int .i64 (q:Int)) (by first | rfl | simp [Qe, *]) HJ.out rfl
  ·
   intro σ W HJ hdep
   simp [Region.binds] at hdep
   have HJ:=hid HJ
   refine Qa rfl rfl ?_
   go_simp
   refine (QbJ q W (by omega)).mono ?_
   rintro e w2 ⟨rfl,hb2⟩
   exact Ql.mk (.agg #[.int .i64 1,.int .u64 (q:Int),.slice none 0 0]) (by first | rfl | simp [Qe, *]) hb2 HJ.out rfl
  ·
   intro σ W HJ hdep
   simp [Region.binds] at hdep
   have HJ:=hid HJ
   have hbn:Below W.heap.size W (W.alloc (.cells #[.int .i64 1,.int .u64 (a:Int),.slice none 0 0,.int .i64 1,.int .u64 (b:Int),.slice none 0 0,.int .i64 1,.int .u64 (c:Int),.slice none 0 0,.int .i64 1,.int .u64 (q:Int),.slice none 0 0] 110)):=(Below.refl _ _).alloc (Nat.le_refl _) _
   have HBN:=hid hbn
   clear hbn
   refine Qa rfl rfl ?_
   go_simp
   refine Ql.mk (.slice (some ⟨W.heap.size,0,none⟩) 4 4) (by first | rfl | simp [Qe, *]) HBN.out HJ.out ?_
   exact Qgg W 110 [(⟨1,a,[]⟩,.slice none 0 0),(⟨1,b,[]⟩,.slice none 0 0),(⟨1,c,[]⟩,.slice none 0 0),(⟨1,q,[]⟩,.slice none 0 0)] (by
    intro q hq
    simp at hq
    rcases hq with rfl | rfl | rfl | rfl
    ·exact .inl ⟨rfl,rfl⟩
    ·exact .inl ⟨rfl,rfl⟩
    ·exact .inl ⟨rfl,rfl⟩
    ·exact .inl ⟨rfl,rfl⟩)
  ·
   intro σ W HJ hdep
   simp [Region.binds] at hdep
   have HJ:=hid HJ
   have HC:=hid (QdJ _ x (σ 12) W.heap.size W hdep.1 (Nat.le_refl _) (by simp) hfit.out hx.out)
   clear hdep
   refine Qa rfl rfl ?_
   go_simp
   refine HC.out.mono ?_
   rintro e w2 ⟨v,rfl,hbv,hb2⟩
   exact Ql.mk v (by first | rfl | simp [Qe, *]) hb2 HJ.out hbv
  ·
   intro σ W HJ hdep
   simp [Region.binds] at hdep
   have HJ:=hid HJ
   have HD:=hid hdep.1
   clear hdep
   refine Qa rfl rfl ?_
   go_simp
   exact Ql.mk0 (σ 13) (by first | rfl | simp [Qe, *]) HJ.out HD.out
 ·intro σ w' hb hg
  exact hQ.out σ w' hb (by first | exact ⟨hg 14 (by decide)⟩ | exact hg 14 (by decide))
theorem Qew (c:Ch) (hord:c.ordered=true) (h:(1≤c.state∧c.state≤4)∧(0≤c.conn∧c.conn≤1000000000000)∧(-1≤c.ochan∧c.ochan≤1000000000000)) (w:World):Calls Tryz.prog 29 #[.agg #[.int .i64 c.state,.bool true,.int .i64 c.conn,.int .i64 c.ochan,.int .i64 c.send,.int .i64 c.recv,.int .i64 c.ack]] w fun e w'=>∃ v,e=.returned v∧Bytes w' w'.heap.size v (JC c)∧Below w.heap.size w w':=by
 have hok:=h
 have hn:∀ n∈[c.state,((1:Nat):Int),c.conn,c.ochan+1],n.toNat<18446744073709551616:=by
  intro n hn
  simp only [List.mem_cons,List.not_mem_nil,or_false] at hn
  omega
 have HX:=hid (Qcx [c.state,((1:Nat):Int),c.conn,c.ochan+1] (Nat.le_refl 4) hn).1
 have HF:=hid (Qc1 _ hn)
 have HE:=hid (show JC c=ZI [c.state,((1:Nat):Int),c.conn,c.ochan+1] by unfold JC;rw [hord];rfl)
 clear hn h hord
 obtain ⟨s,od,cn,on,sd,rv,ak⟩:=c
 simp only at hok HX HF HE
 obtain ⟨a,rfl⟩:∃ n:Nat,s=(n:Int):=⟨s.toNat,by omega⟩
 obtain ⟨d,rfl⟩:∃ n:Nat,cn=(n:Int):=⟨cn.toNat,by omega⟩
 obtain ⟨q,hq⟩:∃ n:Nat,on+1=(n:Int):=⟨(on+1).toNat,by omega⟩
 simp only [List.map_cons,List.map_nil,ZH,Int.toNat_natCast,hq] at HX HF
 rw [hq] at HE
 have hwq:IntKind.i64.wrap (on+1)=(q:Int):=by rw [IntKind.wrap_i64];omega
 obtain ⟨w0,hw0⟩:∃ w0,w.alloc (.cells #[.int .i64 (a:Int),.bool true,.int .i64 (d:Int),.int .i64 on,.int .i64 sd,.int .i64 rv,.int .i64 ak] 54)=w0:=⟨_,rfl⟩
 have HB0:=hid (show Below w.heap.size w w0 by rw [← hw0];exact (Below.refl _ _).alloc (Nat.le_refl _) _)
 have HR0:=hid (QaL hw0)
 have k1:=HR0.out.cell 1
 have HW0:=hid hw0
 clear hw0
 go_enter Tryz.func29,Tryz.ntmps29
 go_upto_region 1 with fail
 rw [HW0.out]
 go_upto_region 4 with fail
 clear k1
 refine Qbb a 1 d q true on sd rv ak _ HR0 (by omega) (by omega) (by omega) (by omega) hwq HX HF _ (hid ?_)
 intro σ w1 hb1 hx
 have HB1:=hid hb1
 have HXX:=hid hx
 clear hb1 hx HX HF
 go_wp2
 go_ret
 exact ⟨_,rfl,by rw [HE.out];exact HXX.out,HB0.out.trans (HB1.out.mono HB0.out.size)⟩
theorem QdG (c:Ch) (hord:c.ordered=false) (h:(1≤c.state∧c.state≤4)∧(0≤c.conn∧c.conn≤1000000000000)∧(-1≤c.ochan∧c.ochan≤1000000000000)) (w:World):Calls Tryz.prog 29 #[.agg #[.int .i64 c.state,.bool false,.int .i64 c.conn,.int .i64 c.ochan,.int .i64 c.send,.int .i64 c.recv,.int .i64 c.ack]] w fun e w'=>∃ v,e=.returned v∧Bytes w' w'.heap.size v (JC c)∧Below w.heap.size w w':=by
 have hok:=h
 have hn:∀ n∈[c.state,((0:Nat):Int),c.conn,c.ochan+1],n.toNat<18446744073709551616:=by
  intro n hn
  simp only [List.mem_cons,List.not_mem_nil,or_false] at hn
  omega
 have HX:=hid (Qcx [c.state,((0:Nat):Int),c.conn,c.ochan+1] (Nat.le_refl 4) hn).1
 have HF:=hid (Qc1 _ hn)
 have HE:=hid (show JC c=ZI [c.state,((0:Nat):Int),c.conn,c.ochan+1] by unfold JC;rw [hord];rfl)
 clear hn h hord
 obtain ⟨s,od,cn,on,sd,rv,ak⟩:=c
 simp only at hok HX HF HE
 obtain ⟨a,rfl⟩:∃ n:Nat,s=(n:Int):=⟨s.toNat,by omega⟩
 obtain ⟨d,rfl⟩:∃ n:Nat,cn=(n:Int):=⟨cn.toNat,by omega⟩
 obtain ⟨q,hq⟩:∃ n:Nat,on+1=(n:Int):=⟨(on+1).toNat,by omega⟩
 simp only [List.map_cons,List.map_nil,ZH,Int.toNat_natCast,hq] at HX HF
 rw [hq] at HE
 have hwq:IntKind.i64.wrap (on+1)=(q:Int):=by rw [IntKind.wrap_i64];omega
 obtain ⟨w0,hw0⟩:∃ w0,w.alloc (.cells #[.int .i64 (a:Int),.bool false,.int .i64 (d:Int),.int .i64 on,.int .i64 sd,.int .i64 rv,.int .i64 ak] 54)=w0:=⟨_,rfl⟩
 have HB0:=hid (show Below w.heap.size w w0 by rw [← hw0];exact (Below.refl _ _).alloc (Nat.le_refl _) _)
 have HR0:=hid (QaL hw0)
 have k1:=HR0.out.cell 1
 have HW0:=hid hw0
 clear hw0
 go_enter Tryz.func29,Tryz.ntmps29
 go_upto_region 1 with fail
 rw [HW0.out]
 go_upto_region 4 with fail
 clear k1
 refine Qbb a 0 d q false on sd rv ak _ HR0 (by omega) (by omega) (by omega) (by omega) hwq HX HF _ (hid ?_)
 intro σ w1 hb1 hx
 have HB1:=hid hb1
 have HXX:=hid hx
 clear hb1 hx HX HF
 go_wp2
 go_ret
 exact ⟨_,rfl,by rw [HE.out];exact HXX.out,HB0.out.trans (HB1.out.mono HB0.out.size)⟩
theorem Qal (c:Ch) (h:(1≤c.state∧c.state≤4)∧(0≤c.conn∧c.conn≤1000000000000)∧(-1≤c.ochan∧c.ochan≤1000000000000)) (w:World):Calls Tryz.prog 29 #[.agg #[.int .i64 c.state,.bool c.ordered,.int .i64 c.conn,.int .i64 c.ochan,.int .i64 c.send,.int .i64 c.recv,.int .i64 c.ack]] w fun e w'=>∃ v,e=.returned v∧Bytes w' w'.heap.size v (JC c)∧Below w.heap.size w w':=by
 cases ho:c.ordered with
 | true=>exact Qew c ho h w
 | false=>exact QdG c ho h w
end Go.Proofs.YtbgdpfeobklnhaaGreatDoor
