/-
  The document's Conn and Chan: the bytes of connections and channels.
-/
import Derived.Test.YtooemgkjkngpcaaGreatDoorshSt8RKey
import Derived.Test.YtooemgkjkngpcaaGreatDoorshHdCheck
namespace Go.Proofs.YtooemgkjkngpcaaGreatDoor
open Go.RowKit

theorem numPc_fits (l:List Int) (h:∀ n∈l,n.toNat<18446744073709551616):∀ p∈l.map numPc,p.fits:=by
  intro p hp
  obtain ⟨n,hn,rfl⟩:=List.mem_map.1 hp
  exact ⟨h n hn,Nat.zero_le _⟩
set_option maxRecDepth 100000 in
set_option maxHeartbeats 4000000 in
theorem refConnRegion {y0 z2 z3 z4 z5 z6 z7 z8 z9 z10 z11 z12 z13 z14 z15 z16 z17:Value} {g:Nat} (a b c q:Nat) (y:Int) (x:List (BitVec 8)) {w:World} (hr:Hid (Row w g 58 [.int .i64 (a:Int),.int .i64 (b:Int),.int .i64 (c:Int),.int .i64 y])) (_ha:a<9223372036854775808) (hb:b<9223372036854775808) (_hc:c<9223372036854775808) (hq:q<9223372036854775808) (hq:IntKind.i64.wrap (y+1)=(q:Int)) (hx:Hid (wrAll [⟨1,a,[]⟩,⟨1,b,[]⟩,⟨1,c,[]⟩,⟨1,q,[]⟩]=.ok x)) (hfit:Hid (∀ p∈([⟨1,a,[]⟩,⟨1,b,[]⟩,⟨1,c,[]⟩,⟨1,q,[]⟩]:List Pc),p.fits)) (Q:Exit→Act→World→Prop)
    (hQ:Hid (∀ (σ:Nat→Value) (w':World),Below w.heap.size w w'→/-15-/ Bytes w' w'.heap.size (σ 15) x→Q .normal ⟨#[y0,.pointer (some ⟨g,0,none⟩),σ 15,σ 0,σ 1,σ 2,σ 3,σ 4,σ 5,σ 6,σ 7,σ 8,σ 9,σ 10,σ 11,σ 12,σ 13,σ 14],[]⟩ w')) :
    Code.wp Tryz.prog (.region 1 ((Tryz.f24.body.bind (regOf 1)).getD #[]) true) Q ⟨#[y0,.pointer (some ⟨g,0,none⟩),z2,z3,z4,z5,z6,z7,z8,z9,z10,z11,z12,z13,z14,z15,z16,z17],[]⟩ w:=by
  conv=>arg 2;arg 2;whnf
  conv=>arg 4;dsimp only
  refine region_grows (by kernel_rfl) (fun σ=>#[y0,.pointer (some ⟨g,0,none⟩),σ 15,σ 0,σ 1,σ 2,σ 3,σ 4,σ 5,σ 6,σ 7,σ 8,σ 9,σ 10,σ 11,σ 12,σ 13,σ 14]) (fun i=>([z3,z4,z5,z6,z7,z8,z9,z10,z11,z12,z13,z14,z15,z16,z17,z2]:List Value).getD i undef) rfl (fun i X W=>match i with
    | 0=>X=.pointer (some ⟨g,0,none⟩)
    | 1=>X=.int .i64 (a:Int)
    | 2=>X=.agg #[.int .i64 1,.int .u64 (a:Int),.slice none 0 0]
    | 3=>X=.pointer (some ⟨g,1,none⟩)
    | 4=>X=.int .i64 (b:Int)
    | 5=>X=.agg #[.int .i64 1,.int .u64 (b:Int),.slice none 0 0]
    | 6=>X=.pointer (some ⟨g,2,none⟩)
    | 7=>X=.int .i64 (c:Int)
    | 8=>X=.agg #[.int .i64 1,.int .u64 (c:Int),.slice none 0 0]
    | 9=>X=.pointer (some ⟨g,3,none⟩)
    | 10=>X=.int .i64 y
    | 11=>X=.int .i64 (q:Int)
    | 12=>X=.agg #[.int .i64 1,.int .u64 (q:Int),.slice none 0 0]
    | 13=>Pieces W W.heap.size X [⟨1,a,[]⟩,⟨1,b,[]⟩,⟨1,c,[]⟩,⟨1,q,[]⟩]
    | 14=>Bytes W W.heap.size X x
    | 15=>Bytes W W.heap.size X x
    | _=>True) ?_ (by kernel_rfl) ?_ ?_
  · intro i X W W' HB H
    match i,H with
    | 0,H=>exact H
    | 1,H=>exact H
    | 2,H=>exact H
    | 3,H=>exact H
    | 4,H=>exact H
    | 5,H=>exact H
    | 6,H=>exact H
    | 7,H=>exact H
    | 8,H=>exact H
    | 9,H=>exact H
    | 10,H=>exact H
    | 11,H=>exact H
    | 12,H=>exact H
    | 13,H=>exact (H.below HB).mono HB.size
    | 14,H=>exact (H.below HB).mono HB.size
    | 15,H=>exact (H.below HB).mono HB.size
    | _+16,_=>exact trivial
  · refine ⟨?_,?_,?_,?_,?_,?_,?_,?_,?_,?_,?_,?_,?_,?_,?_,?_,trivial⟩
    · -- 0: Op.fieldAddr 82 t1 0
      intro σ W HJ hdep
      simp [Region.binds] at hdep
      have HJ:=hid HJ
      refine wpOp_plain rfl rfl ?_
      go_simp
      exact Left.mk0 (.pointer (some ⟨g,0,none⟩)) (by first | rfl | simp [updF, *]) HJ.out rfl
    · -- 1: Op.load 3 t3
      intro σ W HJ hdep
      simp [Region.binds] at hdep
      have HJ:=hid HJ
      have k:=(hr.out.below HJ.out hr.out.lt).cell 0
      simp at k
      refine wpOp_plain rfl rfl ?_
      go_simp
      exact Left.mk0 (.int .i64 (a:Int)) (by first | rfl | simp [updF, *]) HJ.out rfl
    · -- 2: Op.call { value (Operand.func 66), args := #[t4], argTypes :
      intro σ W HJ hdep
      simp [Region.binds] at hdep
      have HJ:=hid HJ
      refine wpOp_plain rfl rfl ?_
      go_simp
      refine (refN_any a W (by omega)).mono ?_
      rintro e w2 ⟨rfl,hb2⟩
      exact Left.mk (.agg #[.int .i64 1,.int .u64 (a:Int),.slice none 0 0]) (by first | rfl | simp [updF, *]) hb2 HJ.out rfl
    · -- 3: Op.fieldAddr 82 t1 1
      intro σ W HJ hdep
      simp [Region.binds] at hdep
      have HJ:=hid HJ
      refine wpOp_plain rfl rfl ?_
      go_simp
      exact Left.mk0 (.pointer (some ⟨g,1,none⟩)) (by first | rfl | simp [updF, *]) HJ.out rfl
    · -- 4: Op.load 3 t6
      intro σ W HJ hdep
      simp [Region.binds] at hdep
      have HJ:=hid HJ
      have k:=(hr.out.below HJ.out hr.out.lt).cell 1
      simp at k
      refine wpOp_plain rfl rfl ?_
      go_simp
      exact Left.mk0 (.int .i64 (b:Int)) (by first | rfl | simp [updF, *]) HJ.out rfl
    · -- 5: Op.call { value (Operand.func 66), args := #[t7], argTypes :
      intro σ W HJ hdep
      simp [Region.binds] at hdep
      have HJ:=hid HJ
      refine wpOp_plain rfl rfl ?_
      go_simp
      refine (refN_any b W (by omega)).mono ?_
      rintro e w2 ⟨rfl,hb2⟩
      exact Left.mk (.agg #[.int .i64 1,.int .u64 (b:Int),.slice none 0 0]) (by first | rfl | simp [updF, *]) hb2 HJ.out rfl
    · -- 6: Op.fieldAddr 82 t1 2
      intro σ W HJ hdep
      simp [Region.binds] at hdep
      have HJ:=hid HJ
      refine wpOp_plain rfl rfl ?_
      go_simp
      exact Left.mk0 (.pointer (some ⟨g,2,none⟩)) (by first | rfl | simp [updF, *]) HJ.out rfl
    · -- 7: Op.load 3 t9
      intro σ W HJ hdep
      simp [Region.binds] at hdep
      have HJ:=hid HJ
      have k:=(hr.out.below HJ.out hr.out.lt).cell 2
      simp at k
      refine wpOp_plain rfl rfl ?_
      go_simp
      exact Left.mk0 (.int .i64 (c:Int)) (by first | rfl | simp [updF, *]) HJ.out rfl
    · -- 8: Op.call { value (Operand.func 66), args := #[t10], argTypes 
      intro σ W HJ hdep
      simp [Region.binds] at hdep
      have HJ:=hid HJ
      refine wpOp_plain rfl rfl ?_
      go_simp
      refine (refN_any c W (by omega)).mono ?_
      rintro e w2 ⟨rfl,hb2⟩
      exact Left.mk (.agg #[.int .i64 1,.int .u64 (c:Int),.slice none 0 0]) (by first | rfl | simp [updF, *]) hb2 HJ.out rfl
    · -- 9: Op.fieldAddr 82 t1 3
      intro σ W HJ hdep
      simp [Region.binds] at hdep
      have HJ:=hid HJ
      refine wpOp_plain rfl rfl ?_
      go_simp
      exact Left.mk0 (.pointer (some ⟨g,3,none⟩)) (by first | rfl | simp [updF, *]) HJ.out rfl
    · -- 10: Op.load 3 t12
      intro σ W HJ hdep
      simp [Region.binds] at hdep
      have HJ:=hid HJ
      have k:=(hr.out.below HJ.out hr.out.lt).cell 3
      simp at k
      refine wpOp_plain rfl rfl ?_
      go_simp
      exact Left.mk0 (.int .i64 y) (by first | rfl | simp [updF, *]) HJ.out rfl
    · -- 11: Op.binOp BinOp.add 3 t13 (const (1:i64)) 3
      intro σ W HJ hdep
      simp [Region.binds] at hdep
      have HJ:=hid HJ
      refine wpOp_plain rfl rfl ?_
      go_simp
      exact Left.mk0 (.int .i64 (q:Int)) (by first | rfl | simp [updF, *]) HJ.out rfl
    · -- 12: Op.call { value (Operand.func 66), args := #[t14], argTypes 
      intro σ W HJ hdep
      simp [Region.binds] at hdep
      have HJ:=hid HJ
      refine wpOp_plain rfl rfl ?_
      go_simp
      refine (refN_any q W (by omega)).mono ?_
      rintro e w2 ⟨rfl,hb2⟩
      exact Left.mk (.agg #[.int .i64 1,.int .u64 (q:Int),.slice none 0 0]) (by first | rfl | simp [updF, *]) hb2 HJ.out rfl
    · -- 13: Op.buildSlice 156 4 #[(0, t5), (1, t8), (2, t11), (3, t15)]
      intro σ W HJ hdep
      simp [Region.binds] at hdep
      have HJ:=hid HJ
      have hbn:Below W.heap.size W (W.alloc (.cells #[.int .i64 1,.int .u64 (a:Int),.slice none 0 0,.int .i64 1,.int .u64 (b:Int),.slice none 0 0,.int .i64 1,.int .u64 (c:Int),.slice none 0 0,.int .i64 1,.int .u64 (q:Int),.slice none 0 0] 107)):=(Below.refl _ _).alloc (Nat.le_refl _) _
      have HBN:=hid hbn
      clear hbn
      refine wpOp_plain rfl rfl ?_
      go_simp
      refine Left.mk (.slice (some ⟨W.heap.size,0,none⟩) 4 4) (by first | rfl | simp [updF, *]) HBN.out HJ.out ?_
      exact pieces_new W 107 [(⟨1,a,[]⟩,.slice none 0 0),(⟨1,b,[]⟩,.slice none 0 0),(⟨1,c,[]⟩,.slice none 0 0),(⟨1,q,[]⟩,.slice none 0 0)] (by
        intro q hq
        simp at hq
        rcases hq with rfl | rfl | rfl | rfl
        · exact .inl ⟨rfl,rfl⟩
        · exact .inl ⟨rfl,rfl⟩
        · exact .inl ⟨rfl,rfl⟩
        · exact .inl ⟨rfl,rfl⟩)
    · -- 14: Op.call { value (Operand.func 65), args := #[t16], argTypes 
      intro σ W HJ hdep
      simp [Region.binds] at hdep
      have HJ:=hid HJ
      have HC:=hid (refPieces_any _ x (σ 13) W.heap.size W hdep.1 (Nat.le_refl _) (by simp) hfit.out hx.out)
      clear hdep
      refine wpOp_plain rfl rfl ?_
      go_simp
      refine HC.out.mono ?_
      rintro e w2 ⟨v,rfl,hbv,hb2⟩
      exact Left.mk v (by first | rfl | simp [updF, *]) hb2 HJ.out hbv
    · -- 15: Op.assign t17
      intro σ W HJ hdep
      simp [Region.binds] at hdep
      have HJ:=hid HJ
      have HD:=hid hdep.1
      clear hdep
      refine wpOp_plain rfl rfl ?_
      go_simp
      exact Left.mk0 (σ 14) (by first | rfl | simp [updF, *]) HJ.out HD.out
  · intro σ w' hb hg
    exact hQ.out σ w' hb (by first | exact ⟨hg 15 (by decide)⟩ | exact hg 15 (by decide))
set_option maxRecDepth 100000 in
set_option maxHeartbeats 2000000 in
theorem refConn_any (c:Cn) (h:wrongCn c=0) (w:World):Calls Tryz.prog 24 #[.agg #[.int .i64 c.state,.int .i64 c.client,.int .i64 c.oclient,.int .i64 c.oconn]] w fun e w'=>∃ v,e=.returned v∧Bytes w' w'.heap.size v (connB c)∧Below w.heap.size w w':=by
  have hok:=wrongCn_ok h
  have hn:∀ n∈[c.state,c.client,c.oclient,c.oconn+1],n.toNat<18446744073709551616:=by
    intro n hn
    simp only [List.mem_cons,List.not_mem_nil,or_false] at hn
    omega
  have HX:=hid (nums_wr [c.state,c.client,c.oclient,c.oconn+1] (Nat.le_refl 4) hn).1
  have HF:=hid (numPc_fits _ hn)
  have HE:=hid (show connB c=numsB [c.state,c.client,c.oclient,c.oconn+1] from rfl)
  clear hn h
  obtain ⟨s,cl,oc,on⟩:=c
  simp only at hok HX HF HE
  obtain ⟨a,rfl⟩:∃ n:Nat,s=(n:Int):=⟨s.toNat,by omega⟩
  obtain ⟨b,rfl⟩:∃ n:Nat,cl=(n:Int):=⟨cl.toNat,by omega⟩
  obtain ⟨d,rfl⟩:∃ n:Nat,oc=(n:Int):=⟨oc.toNat,by omega⟩
  obtain ⟨q,hq⟩:∃ n:Nat,on+1=(n:Int):=⟨(on+1).toNat,by omega⟩
  simp only [List.map_cons,List.map_nil,numPc,Int.toNat_natCast,hq] at HX HF
  rw [hq] at HE
  have hwq:IntKind.i64.wrap (on+1)=(q:Int):=by rw [IntKind.wrap_i64];omega
  obtain ⟨w0,hw0⟩:∃ w0,w.alloc (.cells #[.int .i64 (a:Int),.int .i64 (b:Int),.int .i64 (d:Int),.int .i64 on] 58)=w0:=⟨_,rfl⟩
  have HB0:=hid (show Below w.heap.size w w0 by rw [← hw0];exact (Below.refl _ _).alloc (Nat.le_refl _) _)
  have HR0:=hid (show Row w0 w.heap.size 58 [.int .i64 (a:Int),.int .i64 (b:Int),.int .i64 (d:Int),.int .i64 on] by rw [← hw0];exact Row.new _ _ _)
  have HW0:=hid hw0
  clear hw0
  go_enter Tryz.func24,Tryz.ntmps24
  go_upto_region 1 with fail
  rw [HW0.out]
  refine refConnRegion a b d q on _ HR0 (by omega) (by omega) (by omega) (by omega) hwq HX HF _ (hid ?_)
  intro σ w1 hb1 hx
  have HB1:=hid hb1
  have HXX:=hid hx
  clear hb1 hx HX HF
  go_wp2
  go_ret
  exact ⟨_,rfl,by rw [HE.out];exact HXX.out,HB0.out.trans (HB1.out.mono HB0.out.size)⟩
end Go.Proofs.YtooemgkjkngpcaaGreatDoor
