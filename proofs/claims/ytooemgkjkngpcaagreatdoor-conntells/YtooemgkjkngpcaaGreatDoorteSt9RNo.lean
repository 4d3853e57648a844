/-
  The document's Connect: its refusals, and its drawn regions.
-/
import Derived.Test.YtooemgkjkngpcaaGreatDoorteCoAdd
import Derived.Test.YtooemgkjkngpcaaGreatDoorteStMath
import Derived.Test.YtooemgkjkngpcaaGreatDoorteStApp
import Derived.Test.YtooemgkjkngpcaaGreatDoorteSt8RCopy
namespace Go.Proofs.YtooemgkjkngpcaaGreatDoor
set_option maxRecDepth 1000000
set_option maxHeartbeats 8000000
open Go.RowKit
theorem Qy (lo:Int) (ns:List Int) (g n:Nat) (w:World) (hr:Row w g 3 (ns.map (Value.int .i64))) (hn:n=ns.length) (hl:n≤10) :
  Calls Tryz.prog 44 #[.int .i64 lo,.slice (some ⟨g,0,none⟩) n n] w fun e w'=>e=.returned (.bool (ns.all (Qg lo)))∧w'=w:=by
 have HR:=hid hr
 have HN:=hid hn
 clear hr hn
 go_enter Tryz.func44,Tryz.ntmps44
 go_wp2_with fail
 go_loopw [9] (fun i wr=>∃ k:Nat,k≤n∧i=.int .i64 (k:Int)∧wr=w∧Hid (ns.all (Qg lo)=(ns.drop k).all (Qg lo))) (fun i _=>n-(intOf i).toNat)
 case atStart=>exact ⟨0,by omega,rfl,rfl,hid (by simp)⟩
 case round =>
  obtain ⟨k,hk',rfl,rfl,HI⟩:=hrel
  by_cases hlt:k<n
  ·obtain ⟨x,hx⟩:∃ x,ns[k]?=some x:=⟨ns[k]'(by rw [← HN.out];exact hlt),List.getElem?_eq_getElem _⟩
   have hlt':(k:Int)<(n:Int):=by omega
   have c0:wr.cell? ⟨g,k,none⟩=some (.int .i64 x):=by rw [HR.out.cell,List.getElem?_map,hx];rfl
   have HX:=hid (show (ns.drop k).all (Qg lo)=(Qg lo x && (ns.drop (k+1)).all (Qg lo)) by
    obtain ⟨h1,h2⟩:=List.getElem?_eq_some_iff.1 hx
    rw [List.drop_eq_getElem_cons h1,h2,List.all_cons])
   clear hx
   by_cases q1:x<lo
   ·have e1:decide (x<lo)=true:=by simpa using q1
    have HF:=hid (show Qg lo x=false by unfold Qg;simp;omega)
    clear q1
    go_wp2
    go_ret
    exact ⟨by rw [HI.out,HX.out,HF.out];rfl,rfl⟩
   ·have e1:decide (x<lo)=false:=by simpa using q1
    by_cases q2:1000000000000<x
    ·have e2:decide (1000000000000<x)=true:=by simpa using q2
     have HF:=hid (show Qg lo x=false by unfold Qg;simp;omega)
     clear q1 q2
     go_wp2
     go_ret
     exact ⟨by rw [HI.out,HX.out,HF.out];rfl,rfl⟩
    ·have e2:decide (1000000000000<x)=false:=by simpa using q2
     have HF:=hid (show Qg lo x=true by unfold Qg;simp;omega)
     clear q1 q2
     go_wp2
     go_roundw
     case rel=>exact ⟨k+1,by omega,by go_num,by first | trivial | rfl,hid (by rw [HI.out,HX.out,HF.out];rfl)⟩
     case measure=>simp [intOf];omega
  ·have hge:decide ((k:Int)<(n:Int))=false:=by simp;omega
   have HE:=hid (show (ns.drop k).all (Qg lo)=true by rw [List.drop_eq_nil_of_le (by rw [← HN.out];omega)];rfl)
   go_wp2
   go_ret
   exact ⟨by rw [HI.out,HE.out];rfl,rfl⟩
theorem QaC (a b:ByteArray):YQ (a ++ b)=YQ a ++ YQ b:=by
 unfold YQ
 simp
theorem QiG (l:List (BitVec 8)):YQ (strOfNums (l.map b8))=l:=by
 unfold YQ strOfNums
 simp only [List.map_map]
 conv=>rhs;rw [← List.map_id l]
 apply List.map_congr_left
 intro x _
 simp [b8]
theorem Qdk:∀ (n:Nat),n≤10000000000000→∀ (w:World),Calls Tryz.prog 71 #[.int .i64 (n:Int)] w fun e w'=>∃ s,e=.returned (.string s)∧YQ s=YH n∧Below w.heap.size w w':=by
 intro n
 induction n using Nat.strongRecOn with
 | _ n ih =>
  intro hn w
  by_cases h:n<10
  ·have h':(n:Int)<10:=by omega
   have HD:=hid (Z9 h)
   have ho:=QgJ w (BitVec.ofNat 8 (48+n))
   have hb8:b8 (BitVec.ofNat 8 (48+n))=48+(n:Int):=by unfold b8;rw [BitVec.toNat_ofNat];omega
   have hcv:=QcR ho
   obtain ⟨s,hs⟩:∃ s,strOfNums (List.map b8 [BitVec.ofNat 8 (48+n)])=s:=⟨_,rfl⟩
   have HS:=hid (show YQ s=YH n by rw [← hs,HD.out];exact QiG _)
   rw [hs,hb8] at hcv
   have HB:=hid (show Below w.heap.size w (w.alloc (.cells #[.int .u8 (48+(n:Int))] 5)) from (Below.refl _ _).alloc (Nat.le_refl _) _)
   clear ih hs hb8 ho HD h
   go_enter Tryz.func71,Tryz.ntmps71
   go_wp2
   go_ret
   exact ⟨s,rfl,HS.out,HB.out⟩
  ·have h':decide ((n:Int)<10)=false:=by simp;omega
   have HD:=hid (Qet h)
   have HD2:=hid (Z9 (show n % 10<10 by omega))
   have HC1:=hid (ih (n / 10) (by omega) (by omega))
   have HC2:=hid (ih (n % 10) (by omega) (by omega))
   have q1:((n / 10:Nat):Int)=(n:Int) / 10:=by omega
   have q2:((n % 10:Nat):Int)=(n:Int) % 10:=by omega
   rw [q1] at HC1
   rw [q2] at HC2
   clear ih q1 q2
   go_enter Tryz.func71,Tryz.ntmps71
   go_wp2_with fail
   refine (HC1.out w).mono ?_
   rintro e w1 ⟨s1,rfl,hs1,hb1⟩
   have HS1:=hid hs1
   have HB1:=hid hb1
   clear hs1 hb1
   go_wp2_with fail
   refine (HC2.out w1).mono ?_
   rintro e w2 ⟨s2,rfl,hs2,hb2⟩
   have HS2:=hid hs2
   have HB2:=hid hb2
   have hz1:s1.size≤14:=by rw [← Q2,HS1.out];exact Zv 13 _ (by omega)
   have hz2:s2.size≤14:=by rw [← Q2,HS2.out];exact Zv 13 _ (by omega)
   have hz:¬ (9223372036854775807<s1.size+s2.size):=by omega
   clear hs2 hb2
   go_wp2
   go_ret
   exact ⟨_,rfl,by rw [QaC,HS1.out,HS2.out,HD.out,HD2.out],HB1.out.trans (HB2.out.mono HB1.out.size)⟩
theorem QM (kind:ByteArray) (ns:List Int) (g n:Nat) (w:World) (hk:kind.size≤100) (hr:Row w g 3 (ns.map (Value.int .i64))) (hn:n=ns.length) (hl:n≤10) (hp:∀ n∈ns,0≤n∧n≤1000000000000) :
  Calls Tryz.prog 23 #[.string kind,.slice (some ⟨g,0,none⟩) n n] w fun e w'=>∃ v,e=.returned v∧Bytes w' w'.heap.size v (Jo (YQ kind) (ns.map (·.toNat)))∧Below w.heap.size w w':=by
 have hgl:=hr.lt
 have HR:=hid hr
 have HP:=hid hp
 have HN:=hid hn
 have hlk:(YQ kind).length≤100:=by rw [Q2];exact hk
 have HLN:=hid (QeC (YQ kind) ns hp)
 clear hr hp hn
 go_enter Tryz.func23,Tryz.ntmps23
 go_wp2_with fail
 go_loopw [0,9] (fun o i wr=>∃ (k:Nat) (s:ByteArray),k≤n∧i=.int .i64 (k:Int)∧o=.string s∧Hid (YQ s=Qcc (YQ kind) ns k∧Below w.heap.size w wr)) (fun _ i _=>n-(intOf i).toNat)
 case atStart=>exact ⟨0,kind,by omega,rfl,rfl,hid ⟨by simp [Qcc],Below.refl _ _⟩⟩
 case round =>
  obtain ⟨k,s,hk',rfl,rfl,HI⟩:=hrel
  have HBW:=hid HI.out.2
  have HOW:=hid HI.out.1
  have hszw:=HBW.out.size
  clear HI
  by_cases hlt:k<n
  ·obtain ⟨x,hx⟩:∃ x,ns[k]?=some x:=⟨ns[k]'(by rw [← HN.out];exact hlt),List.getElem?_eq_getElem _⟩
   have hlt':(k:Int)<(n:Int):=by omega
   have c0:wr.cell? ⟨g,k,none⟩=some (.int .i64 x):=by rw [(HR.out.below HBW.out hgl).cell,List.getElem?_map,hx];rfl
   have hx0:=HP.out x (List.mem_of_getElem? hx)
   obtain ⟨u,rfl⟩:∃ u:Nat,x=(u:Int):=⟨x.toNat,by omega⟩
   have HNX:=hid (QbM (YQ kind) ns k _ hx)
   have HC:=hid (Qdk u (by omega))
   have hz1:s.size≤240:=by rw [← Q2,HOW.out];have:=HLN.out k (by rw [← HN.out];exact hk');omega
   have hz:¬ (9223372036854775807<s.size+1):=by omega
   have hz0:¬ (9223372036854775807<s.size+(ByteArray.mk #[47]).size):=hz
   clear hx
   go_wp2_with fail
   refine (HC.out _).mono ?_
   rintro e w1 ⟨s1,rfl,hs1,hb1⟩
   have HS1:=hid hs1
   have HB1:=hid (HBW.out.trans (hb1.mono hszw))
   have hz2:s1.size≤14:=by rw [← Q2,HS1.out];exact Zv 13 _ (by omega)
   have hz3:(s ++ ByteArray.mk #[47]).size=s.size+1:=by rw [ByteArray.size_append];rfl
   have hz4:¬ (9223372036854775807<(s ++ ByteArray.mk #[47]).size+s1.size):=by omega
   have hz5:¬ (9223372036854775807<s.size+1+s1.size):=by omega
   clear hs1 hb1
   go_wp2
   go_roundw
   case rel=>exact ⟨k+1,_,by omega,by go_num,rfl,hid ⟨by rw [QaC,QaC,HNX.out,HOW.out,HS1.out];rfl,HB1.out⟩⟩
   case measure=>simp [intOf];omega
  ·have hge:decide ((k:Int)<(n:Int))=false:=by simp;omega
   have HE:=hid (QeX (YQ kind) ns k (by rw [← HN.out];omega))
   have hcv:=Qdw wr s
   have HT:=hid (QfI wr s)
   have HTB:=hid (Qc4 wr s)
   obtain ⟨wb,hwb⟩:∃ wb,Lib.bytesWorld wr 5 s=wb:=⟨_,rfl⟩
   rw [hwb] at hcv HT HTB
   clear hwb
   go_wp2
   go_ret
   exact ⟨_,rfl,by rw [← HE.out,← HOW.out];exact HT.out,HBW.out.trans (HTB.out.mono hszw)⟩
theorem QfJ (l:List Int) (h:∀ n∈l,n.toNat<18446744073709551616):∀ p∈l.map ZX,p.fits:=by
 intro p hp
 obtain ⟨n,hn,rfl⟩:=List.mem_map.1 hp
 exact ⟨h n hn,Nat.zero_le _⟩
theorem Qda {y0 z2 z3 z4 z5 z6 z7 z8 z9 A0 A1 A2 A3 A4 A5 A6 A7:Value} {g:Nat} (a b c q:Nat) (y:Int) (x:List (BitVec 8)) {w:World} (hr:Hid (Row w g 58 [.int .i64 (a:Int),.int .i64 (b:Int),.int .i64 (c:Int),.int .i64 y])) (_ha:a<9223372036854775808) (hb:b<9223372036854775808) (_hc:c<9223372036854775808) (hq:q<9223372036854775808) (hq:IntKind.i64.wrap (y+1)=(q:Int)) (hx:Hid (ZL [⟨1,a,[]⟩,⟨1,b,[]⟩,⟨1,c,[]⟩,⟨1,q,[]⟩]=.ok x)) (hfit:Hid (∀ p∈([⟨1,a,[]⟩,⟨1,b,[]⟩,⟨1,c,[]⟩,⟨1,q,[]⟩]:List Pc),p.fits)) (Q:Exit→Act→World→Prop)
  (hQ:Hid (∀ (σ:Nat→Value) (w':World),Below w.heap.size w w'→/-15-/ Bytes w' w'.heap.size (σ 15) x→Q .normal ⟨#[y0,.pointer (some ⟨g,0,none⟩),σ 15,σ 0,σ 1,σ 2,σ 3,σ 4,σ 5,σ 6,σ 7,σ 8,σ 9,σ 10,σ 11,σ 12,σ 13,σ 14],[]⟩ w')) :
  Code.wp Tryz.prog (.region 1 ((Tryz.f24.body.bind (Ja 1)).getD #[]) true) Q ⟨#[y0,.pointer (some ⟨g,0,none⟩),z2,z3,z4,z5,z6,z7,z8,z9,A0,A1,A2,A3,A4,A5,A6,A7],[]⟩ w:=by
 conv=>arg 2;arg 2;whnf
 conv=>arg 4;dsimp only
 refine Q6 (by kernel_rfl) (fun σ=>#[y0,.pointer (some ⟨g,0,none⟩),σ 15,σ 0,σ 1,σ 2,σ 3,σ 4,σ 5,σ 6,σ 7,σ 8,σ 9,σ 10,σ 11,σ 12,σ 13,σ 14]) (fun i=>([z3,z4,z5,z6,z7,z8,z9,A0,A1,A2,A3,A4,A5,A6,A7,z2]:List Value).getD i undef) rfl (fun i X W=>match i with
  | 0=>X=.pointer (some ⟨g,0,none⟩)
  | 1=>X=.int .i64 (a:Int)
  | 2=>X=.agg #[.int .i64 1,.int .u64 (a:Int),.slice none 0 0]
  | 3=>X=.pointer (some ⟨g,1,none⟩)
  | 4=>X=.int .i64 (b:Int)
  | 5=>X=.agg #[.int .i64 1,.int .u64 (b:Int),.slice none 0 0]
  | 6=>X=.pointer (some ⟨g,2,none⟩)
  | 7=>X=.int .i64 (c:Int)
  | 8=>X=.agg #[.int .i64 1,.int .u64 (c:Int),.slice none 0 0]
  | 9=>X=.pointer (some ⟨g,3,none⟩)
  | 10=>X=.int .i64 y
  | 11=>X=.int .i64 (q:Int)
  | 12=>X=.agg #[.int .i64 1,.int .u64 (q:Int),.slice none 0 0]
  | 13=>J3 W W.heap.size X [⟨1,a,[]⟩,⟨1,b,[]⟩,⟨1,c,[]⟩,⟨1,q,[]⟩]
  | 14=>Bytes W W.heap.size X x
  | 15=>Bytes W W.heap.size X x
  | _=>True) ?_ (by kernel_rfl) ?_ ?_
 ·intro i X W W' HB H
  match i,H with
  | 0,H=>exact H
  | 1,H=>exact H
  | 2,H=>exact H
  | 3,H=>exact H
  | 4,H=>exact H
  | 5,H=>exact H
  | 6,H=>exact H
  | 7,H=>exact H
  | 8,H=>exact H
  | 9,H=>exact H
  | 10,H=>exact H
  | 11,H=>exact H
  | 12,H=>exact H
  | 13,H=>exact (H.below HB).mono HB.size
  | 14,H=>exact (H.below HB).mono HB.size
  | 15,H=>exact (H.below HB).mono HB.size
  | _+16,_=>exact trivial
 ·refine ⟨?_,?_,?_,?_,?_,?_,?_,?_,?_,?_,?_,?_,?_,?_,?_,?_,trivial⟩
  ·
   intro σ W HJ hdep
   simp [Region.binds] at hdep
   have HJ:=hid HJ
   refine Qa rfl rfl ?_
   go_simp
   exact Qo.mk0 (.pointer (some ⟨g,0,none⟩)) (by first | rfl | simp [Qh, *]) HJ.out rfl
  ·
   intro σ W HJ hdep
   simp [Region.binds] at hdep
   have HJ:=hid HJ
   have k:=(rg hr HJ).cell 0
   simp at k
   refine Qa rfl rfl ?_
   go_simp
   exact Qo.mk0 (.int .i64 (a:Int)) (by first | rfl | simp [Qh, *]) HJ.out rfl
  ·
   intro σ W HJ hdep
   simp [Region.binds] at hdep
   have HJ:=hid HJ
   refine Qa rfl rfl ?_
   go_simp
   refine (Qbd a W (by omega)).mono ?_
   rintro e w2 ⟨rfl,hb2⟩
   exact Qo.mk (.agg #[.int .i64 1,.int .u64 (a:Int),.slice none 0 0]) (by first | rfl | simp [Qh, *]) hb2 HJ.out rfl
  ·
   intro σ W HJ hdep
   simp [Region.binds] at hdep
   have HJ:=hid HJ
   refine Qa rfl rfl ?_
   go_simp
   exact Qo.mk0 (.pointer (some ⟨g,1,none⟩)) (by first | rfl | simp [Qh, *]) HJ.out rfl
  ·
   intro σ W HJ hdep
   simp [Region.binds] at hdep
   have HJ:=hid HJ
   have k:=(rg hr HJ).cell 1
   simp at k
   refine Qa rfl rfl ?_
   go_simp
   exact Qo.mk0 (.int .i64 (b:Int)) (by first | rfl | simp [Qh, *]) HJ.out rfl
  ·
   intro σ W HJ hdep
   simp [Region.binds] at hdep
   have HJ:=hid HJ
   refine Qa rfl rfl ?_
   go_simp
   refine (Qbd b W (by omega)).mono ?_
   rintro e w2 ⟨rfl,hb2⟩
   exact Qo.mk (.agg #[.int .i64 1,.int .u64 (b:Int),.slice none 0 0]) (by first | rfl | simp [Qh, *]) hb2 HJ.out rfl
  ·
   intro σ W HJ hdep
   simp [Region.binds] at hdep
   have HJ:=hid HJ
   refine Qa rfl rfl ?_
   go_simp
   exact Qo.mk0 (.pointer (some ⟨g,2,none⟩)) (by first | rfl | simp [Qh, *]) HJ.out rfl
  ·
   intro σ W HJ hdep
   simp [Region.binds] at hdep
   have HJ:=hid HJ
   have k:=(rg hr HJ).cell 2
   simp at k
   refine Qa rfl rfl ?_
   go_simp
   exact Qo.mk0 (.int .i64 (c:Int)) (by first | rfl | simp [Qh, *]) HJ.out rfl
  ·
   intro σ W HJ hdep
   simp [Region.binds] at hdep
   have HJ:=hid HJ
   refine Qa rfl rfl ?_
   go_simp
   refine (Qbd c W (by omega)).mono ?_
   rintro e w2 ⟨rfl,hb2⟩
   exact Qo.mk (.agg #[.int .i64 1,.int .u64 (c:Int),.slice none 0 0]) (by first | rfl | simp [Qh, *]) hb2 HJ.out rfl
  ·
   intro σ W HJ hdep
   simp [Region.binds] at hdep
   have HJ:=hid HJ
   refine Qa rfl rfl ?_
   go_simp
   exact Qo.mk0 (.pointer (some ⟨g,3,none⟩)) (by first | rfl | simp [Qh, *]) HJ.out rfl
  ·
   intro σ W HJ hdep
   simp [Region.binds] at hdep
   have HJ:=hid HJ
   have k:=(rg hr HJ).cell 3
   simp at k
   refine Qa rfl rfl ?_
   go_simp
   exact Qo.mk0 (.int .i64 y) (by first | rfl | simp [Qh, *]) HJ.out rfl
  ·
   intro σ W HJ hdep
   simp [Region.binds] at hdep
   have HJ:=hid HJ
   refine Qa rfl rfl ?_
   go_simp
   exact Qo.mk0 (.int .i64 (q:Int)) (by first | rfl | simp [Qh, *]) HJ.out rfl
  ·
   intro σ W HJ hdep
   simp [Region.binds] at hdep
   have HJ:=hid HJ
   refine Qa rfl rfl ?_
   go_simp
   refine (Qbd q W (by omega)).mono ?_
   rintro e w2 ⟨rfl,hb2⟩
   exact Qo.mk (.agg #[.int .i64 1,.int .u64 (q:Int),.slice none 0 0]) (by first | rfl | simp [Qh, *]) hb2 HJ.out rfl
  ·
   intro σ W HJ hdep
   simp [Region.binds] at hdep
   have HJ:=hid HJ
   have hbn:Below W.heap.size W (W.alloc (.cells #[.int .i64 1,.int .u64 (a:Int),.slice none 0 0,.int .i64 1,.int .u64 (b:Int),.slice none 0 0,.int .i64 1,.int .u64 (c:Int),.slice none 0 0,.int .i64 1,.int .u64 (q:Int),.slice none 0 0] 107)):=(Below.refl _ _).alloc (Nat.le_refl _) _
   have HBN:=hid hbn
   clear hbn
   refine Qa rfl rfl ?_
   go_simp
   refine Qo.mk (.slice (some ⟨W.heap.size,0,none⟩) 4 4) (by first | rfl | simp [Qh, *]) HBN.out HJ.out ?_
   exact QfE W 107 [(⟨1,a,[]⟩,.slice none 0 0),(⟨1,b,[]⟩,.slice none 0 0),(⟨1,c,[]⟩,.slice none 0 0),(⟨1,q,[]⟩,.slice none 0 0)] (by
    intro q hq
    simp at hq
    rcases hq with rfl | rfl | rfl | rfl
    ·exact .inl ⟨rfl,rfl⟩
    ·exact .inl ⟨rfl,rfl⟩
    ·exact .inl ⟨rfl,rfl⟩
    ·exact .inl ⟨rfl,rfl⟩)
  ·
   intro σ W HJ hdep
   simp [Region.binds] at hdep
   have HJ:=hid HJ
   have HC:=hid (Qdo _ x (σ 13) W.heap.size W hdep.1 (Nat.le_refl _) (by simp) hfit.out hx.out)
   clear hdep
   refine Qa rfl rfl ?_
   go_simp
   refine HC.out.mono ?_
   rintro e w2 ⟨v,rfl,hbv,hb2⟩
   exact Qo.mk v (by first | rfl | simp [Qh, *]) hb2 HJ.out hbv
  ·
   intro σ W HJ hdep
   simp [Region.binds] at hdep
   have HJ:=hid HJ
   have HD:=hid hdep.1
   clear hdep
   refine Qa rfl rfl ?_
   go_simp
   exact Qo.mk0 (σ 14) (by first | rfl | simp [Qh, *]) HJ.out HD.out
 ·intro σ w' hb hg
  exact hQ.out σ w' hb (by first | exact ⟨hg 15 (by decide)⟩ | exact hg 15 (by decide))
theorem QeM (c:Cn) (h:Qk c=0) (w:World):Calls Tryz.prog 24 #[.agg #[.int .i64 c.state,.int .i64 c.client,.int .i64 c.oclient,.int .i64 c.oconn]] w fun e w'=>∃ v,e=.returned v∧Bytes w' w'.heap.size v (JA c)∧Below w.heap.size w w':=by
 have hok:=Jx h
 have hn:∀ n∈[c.state,c.client,c.oclient,c.oconn+1],n.toNat<18446744073709551616:=by
  intro n hn
  simp only [List.mem_cons,List.not_mem_nil,or_false] at hn
  omega
 have HX:=hid (QdR [c.state,c.client,c.oclient,c.oconn+1] (Nat.le_refl 4) hn).1
 have HF:=hid (QfJ _ hn)
 have HE:=hid (show JA c=ZU [c.state,c.client,c.oclient,c.oconn+1] from rfl)
 clear hn h
 obtain ⟨s,cl,oc,on⟩:=c
 simp only at hok HX HF HE
 obtain ⟨a,rfl⟩:∃ n:Nat,s=(n:Int):=⟨s.toNat,by omega⟩
 obtain ⟨b,rfl⟩:∃ n:Nat,cl=(n:Int):=⟨cl.toNat,by omega⟩
 obtain ⟨d,rfl⟩:∃ n:Nat,oc=(n:Int):=⟨oc.toNat,by omega⟩
 obtain ⟨q,hq⟩:∃ n:Nat,on+1=(n:Int):=⟨(on+1).toNat,by omega⟩
 simp only [List.map_cons,List.map_nil,ZX,Int.toNat_natCast,hq] at HX HF
 rw [hq] at HE
 have hwq:IntKind.i64.wrap (on+1)=(q:Int):=by rw [IntKind.wrap_i64];omega
 obtain ⟨w0,hw0⟩:∃ w0,w.alloc (.cells #[.int .i64 (a:Int),.int .i64 (b:Int),.int .i64 (d:Int),.int .i64 on] 58)=w0:=⟨_,rfl⟩
 have HB0:=hid (show Below w.heap.size w w0 by rw [← hw0];exact (Below.refl _ _).alloc (Nat.le_refl _) _)
 have HR0:=hid (Q7 hw0)
 have HW0:=hid hw0
 clear hw0
 go_enter Tryz.func24,Tryz.ntmps24
 go_upto_region 1 with fail
 rw [HW0.out]
 refine Qda a b d q on _ HR0 (by omega) (by omega) (by omega) (by omega) hwq HX HF _ (hid ?_)
 intro σ w1 hb1 hx
 have HB1:=hid hb1
 have HXX:=hid hx
 clear hb1 hx HX HF
 go_wp2
 go_ret
 exact ⟨_,rfl,by rw [HE.out];exact HXX.out,HB0.out.trans (HB1.out.mono HB0.out.size)⟩
theorem Jz (e:Int) (w:World):Calls Tryz.prog 57 #[.int .i64 e] w fun x w'=>x=.returned (.tuple #[.agg #[.string ⟨#[]⟩,.int .i64 0,.int .i64 0,.slice none 0 0,.slice none 0 0,.slice none 0 0,.slice none 0 0,.slice none 0 0,.slice none 0 0,.slice none 0 0],.int .i64 0,.int .i64 e])∧Below w.heap.size w w':=by
 obtain ⟨w0,hw0,hb0,HR0,hsz0⟩:=Qki w 28 [.string ⟨#[]⟩,.int .i64 0,.int .i64 0,.slice none 0 0,.slice none 0 0,.slice none 0 0,.slice none 0 0,.slice none 0 0,.slice none 0 0,.slice none 0 0]
 have HB0:=hid hb0
 have HIZ:=hid (show (Tryz.prog.info? 28).map (·.size)=some 10 by kernel_rfl)
 have HW0:=hid hw0
 clear hb0 hw0
 obtain ⟨w1,hw1,HRS1,HHZ1,HON1,HSW1⟩:=QJ HR0.out [.string ⟨#[]⟩,.int .i64 0,.int .i64 0,.slice none 0 0,.slice none 0 0,.slice none 0 0,.slice none 0 0,.slice none 0 0,.slice none 0 0,.slice none 0 0] (by simp [Value.oneCell'])
 have HB1:=hid (show Below w.heap.size w w1 by rw [← hw1];exact Qd HB0.out (Nat.le_refl _) _)
 clear hw1
 go_enter Tryz.func57,Tryz.ntmps57
 go_upto_region 1 with fail
 rw [HW0.out]
 go_wp2_with (refine Qf rfl (.tmp 2) (.tmp 5) rfl rfl rfl HHZ1.out HIZ.out rfl HON1.out HSW1.out ?_)
 obtain ⟨y0,y1,y2,y3,y4,y5,y6,y7,y8,y9⟩:=HRS1.out.c10
 exact bodyPost_ret (v:=.tuple #[.agg #[.string ⟨#[]⟩,.int .i64 0,.int .i64 0,.slice none 0 0,.slice none 0 0,.slice none 0 0,.slice none 0 0,.slice none 0 0,.slice none 0 0,.slice none 0 0],.int .i64 0,.int .i64 e]) (by simp [results,Tryz.results57,go_sem,y0,y1,y2,y3,y4,y5,y6,y7,y8,y9]) rfl ⟨rfl,HB1.out⟩
theorem QfR {y0 y1 y2 y4 y5 y6 y7 y9 A0 Ab Am AH AS B3 Bc Bi Bt BE Cc Cd Ce Cf Cg Ch Ci Cj Ck Cl Cm Co Cp Cq Cr Cs Ct Cu Cv Cw Cx Cy Cz CA CB CC CD CE CF CG CH CI CJ CK CL CM CN CO CP CQ CR CS CT CU CV CW CX CY CZ D0 D1 D2 D3 D4 D5 D6 D7 D8 D9 Da Db Dc Dd De Df Dg Dh Di Dj Dk Dl Dm Dn Do Dp Dq A1 A2 A3 A4 A5 A6 A7 A8 A9 Aa Ac Ad Ae Af Ag Ah Ai Aj Ak Al An Ao Ap Aq Ar As At Au Av Aw Ax Ay Az AA AB AC AD AE AF AG AI AJ AK AL AM AN AO AP AQ AR AT AU AV AW AX AY AZ B0 B1 B2 B4 B5 B6 B7 B8 B9 Ba Bb Bd Be Bf Bg Bh Bj Bk Bl Bm Bn Bo Bp Bq Br Bs Bu Bv Bw Bx By Bz BA BB BC BD BF BG BH BI BJ BK BL BM BN BO BP BQ BR BS BT BU BV BW BX BY BZ C0 C1 C2 C3 C4 C5 C6 C7 C8 C9 Ca Cb Dy Dr Ds Dt Du Dv Dw Dx:Value} {gs gh gm N:Nat} (s:St) (h:Sh) (c z:Int) (m:Cn) (key:List (BitVec 8)) (kv:Value) (o1 o2 o3 o4 o5 o6 o7:Option Addr) (c1 c2 c3 c4 c5 c6 c7:Nat) (q1 q2 q3 r1 r2 r3 r4 r5 r6:Option Addr) (e1 e2 e3 s1 s2 s3 s4 s5 s6:Nat) {w:World} (hN:N≤w.heap.size) (hrs:Hid (Row w gs 28 [.string s.name,.int .i64 s.height,.int .i64 s.time,.slice o1 s.clients.length c1,.slice o2 s.conns.length c2,.slice o3 s.chans.length c3,.slice o4 s.sent.length c4,.slice o5 s.got.length c5,.slice o6 s.acks.length c6,.slice o7 s.purses.length c7])) (hrh:Hid (Row w gh 46 [.int .i64 h.height,.int .i64 h.prf.index,.int .i64 h.prf.size,.slice q1 h.prf.key.length e1,.slice q2 h.prf.val.length e2,.slice q3 h.prf.path.length e3,.bool h.gap.hasL,.bool h.gap.hasR,.int .i64 h.gap.left.index,.int .i64 h.gap.left.size,.slice r1 h.gap.left.key.length s1,.slice r2 h.gap.left.val.length s2,.slice r3 h.gap.left.path.length s3,.int .i64 h.gap.right.index,.int .i64 h.gap.right.size,.slice r4 h.gap.right.key.length s4,.slice r5 h.gap.right.val.length s5,.slice r6 h.gap.right.path.length s6])) (hrm:Hid (Row w gm 58 [.int .i64 m.state,.int .i64 m.client,.int .i64 m.oclient,.int .i64 m.oconn])) (hsv:Hid (StV w N (.agg #[.string s.name,.int .i64 s.height,.int .i64 s.time,.slice o1 s.clients.length c1,.slice o2 s.conns.length c2,.slice o3 s.chans.length c3,.slice o4 s.sent.length c4,.slice o5 s.got.length c5,.slice o6 s.acks.length c6,.slice o7 s.purses.length c7]) s)) (hhv:Hid (ShV w N (.agg #[.int .i64 h.height,.int .i64 h.prf.index,.int .i64 h.prf.size,.slice q1 h.prf.key.length e1,.slice q2 h.prf.val.length e2,.slice q3 h.prf.path.length e3,.bool h.gap.hasL,.bool h.gap.hasR,.int .i64 h.gap.left.index,.int .i64 h.gap.left.size,.slice r1 h.gap.left.key.length s1,.slice r2 h.gap.left.val.length s2,.slice r3 h.gap.left.path.length s3,.int .i64 h.gap.right.index,.int .i64 h.gap.right.size,.slice r4 h.gap.right.key.length s4,.slice r5 h.gap.right.val.length s5,.slice r6 h.gap.right.path.length s6]) h)) (hkv:Hid (Bytes w N kv key)) (hm:Hid (Qk m=0)) (hsf:Hid s.fits) (hhf:Hid h.fits) (htab:Hid (Qt w)) (hc:0≤c∧c<(s.clients.length:Int)) (hkl:key.length≤140737488351232) (hvl:(JA m).length≤140737488351232) (hz:Hid (QZ s c h key (JA m) z)) (Q:Exit→Act→World→Prop)
  (hQ:Hid (∀ (σ:Nat→Value) (w':World),Below w.heap.size w w'→/-7-/ σ 7=.int .i64 z→Q .normal ⟨#[y0,y1,y2,.int .i64 c,y4,y5,y6,y7,.pointer (some ⟨gs,0,none⟩),y9,A0,Ab,Am,.pointer (some ⟨gh,0,none⟩),AH,AS,B3,Bc,Bi,Bt,BE,.pointer (some ⟨gm,0,none⟩),kv,σ 7,Cc,Cd,Ce,Cf,Cg,Ch,Ci,Cj,Ck,Cl,Cm,Co,Cp,Cq,Cr,Cs,Ct,Cu,Cv,Cw,Cx,Cy,Cz,CA,CB,CC,CD,CE,CF,CG,CH,CI,CJ,CK,CL,CM,CN,CO,CP,CQ,CR,CS,CT,CU,CV,CW,CX,CY,CZ,D0,D1,D2,D3,D4,D5,D6,D7,D8,D9,Da,Db,Dc,Dd,De,Df,Dg,Dh,Di,Dj,Dk,Dl,Dm,Dn,Do,Dp,Dq,A1,A2,A3,A4,A5,A6,A7,A8,A9,Aa,Ac,Ad,Ae,Af,Ag,Ah,Ai,Aj,Ak,Al,An,Ao,Ap,Aq,Ar,As,At,Au,Av,Aw,Ax,Ay,Az,AA,AB,AC,AD,AE,AF,AG,AI,AJ,AK,AL,AM,AN,AO,AP,AQ,AR,AT,AU,AV,AW,AX,AY,AZ,B0,B1,B2,B4,B5,B6,B7,B8,B9,Ba,Bb,σ 0,σ 1,σ 2,σ 3,σ 4,σ 5,σ 6,Bd,Be,Bf,Bg,Bh,Bj,Bk,Bl,Bm,Bn,Bo,Bp,Bq,Br,Bs,Bu,Bv,Bw,Bx,By,Bz,BA,BB,BC,BD,BF,BG,BH,BI,BJ,BK,BL,BM,BN,BO,BP,BQ,BR,BS,BT,BU,BV,BW,BX,BY,BZ,C0,C1,C2,C3,C4,C5,C6,C7,C8,C9,Ca,Cb],[]⟩ w')) :
  Code.wp Tryz.prog (.region 31 ((Tryz.f16.body.bind (Ja 31)).getD #[]) true) Q ⟨#[y0,y1,y2,.int .i64 c,y4,y5,y6,y7,.pointer (some ⟨gs,0,none⟩),y9,A0,Ab,Am,.pointer (some ⟨gh,0,none⟩),AH,AS,B3,Bc,Bi,Bt,BE,.pointer (some ⟨gm,0,none⟩),kv,Dy,Cc,Cd,Ce,Cf,Cg,Ch,Ci,Cj,Ck,Cl,Cm,Co,Cp,Cq,Cr,Cs,Ct,Cu,Cv,Cw,Cx,Cy,Cz,CA,CB,CC,CD,CE,CF,CG,CH,CI,CJ,CK,CL,CM,CN,CO,CP,CQ,CR,CS,CT,CU,CV,CW,CX,CY,CZ,D0,D1,D2,D3,D4,D5,D6,D7,D8,D9,Da,Db,Dc,Dd,De,Df,Dg,Dh,Di,Dj,Dk,Dl,Dm,Dn,Do,Dp,Dq,A1,A2,A3,A4,A5,A6,A7,A8,A9,Aa,Ac,Ad,Ae,Af,Ag,Ah,Ai,Aj,Ak,Al,An,Ao,Ap,Aq,Ar,As,At,Au,Av,Aw,Ax,Ay,Az,AA,AB,AC,AD,AE,AF,AG,AI,AJ,AK,AL,AM,AN,AO,AP,AQ,AR,AT,AU,AV,AW,AX,AY,AZ,B0,B1,B2,B4,B5,B6,B7,B8,B9,Ba,Bb,Dr,Ds,Dt,Du,Dv,Dw,Dx,Bd,Be,Bf,Bg,Bh,Bj,Bk,Bl,Bm,Bn,Bo,Bp,Bq,Br,Bs,Bu,Bv,Bw,Bx,By,Bz,BA,BB,BC,BD,BF,BG,BH,BI,BJ,BK,BL,BM,BN,BO,BP,BQ,BR,BS,BT,BU,BV,BW,BX,BY,BZ,C0,C1,C2,C3,C4,C5,C6,C7,C8,C9,Ca,Cb],[]⟩ w:=by
 conv=>arg 2;arg 2;whnf
 conv=>arg 4;dsimp only
 refine Q6 (by kernel_rfl) (fun σ=>#[y0,y1,y2,.int .i64 c,y4,y5,y6,y7,.pointer (some ⟨gs,0,none⟩),y9,A0,Ab,Am,.pointer (some ⟨gh,0,none⟩),AH,AS,B3,Bc,Bi,Bt,BE,.pointer (some ⟨gm,0,none⟩),kv,σ 7,Cc,Cd,Ce,Cf,Cg,Ch,Ci,Cj,Ck,Cl,Cm,Co,Cp,Cq,Cr,Cs,Ct,Cu,Cv,Cw,Cx,Cy,Cz,CA,CB,CC,CD,CE,CF,CG,CH,CI,CJ,CK,CL,CM,CN,CO,CP,CQ,CR,CS,CT,CU,CV,CW,CX,CY,CZ,D0,D1,D2,D3,D4,D5,D6,D7,D8,D9,Da,Db,Dc,Dd,De,Df,Dg,Dh,Di,Dj,Dk,Dl,Dm,Dn,Do,Dp,Dq,A1,A2,A3,A4,A5,A6,A7,A8,A9,Aa,Ac,Ad,Ae,Af,Ag,Ah,Ai,Aj,Ak,Al,An,Ao,Ap,Aq,Ar,As,At,Au,Av,Aw,Ax,Ay,Az,AA,AB,AC,AD,AE,AF,AG,AI,AJ,AK,AL,AM,AN,AO,AP,AQ,AR,AT,AU,AV,AW,AX,AY,AZ,B0,B1,B2,B4,B5,B6,B7,B8,B9,Ba,Bb,σ 0,σ 1,σ 2,σ 3,σ 4,σ 5,σ 6,Bd,Be,Bf,Bg,Bh,Bj,Bk,Bl,Bm,Bn,Bo,Bp,Bq,Br,Bs,Bu,Bv,Bw,Bx,By,Bz,BA,BB,BC,BD,BF,BG,BH,BI,BJ,BK,BL,BM,BN,BO,BP,BQ,BR,BS,BT,BU,BV,BW,BX,BY,BZ,C0,C1,C2,C3,C4,C5,C6,C7,C8,C9,Ca,Cb]) (fun i=>([Dr,Ds,Dt,Du,Dv,Dw,Dx,Dy]:List Value).getD i undef) rfl (fun i X W=>match i with
  | 0=>X=.agg #[.string s.name,.int .i64 s.height,.int .i64 s.time,.slice o1 s.clients.length c1,.slice o2 s.conns.length c2,.slice o3 s.chans.length c3,.slice o4 s.sent.length c4,.slice o5 s.got.length c5,.slice o6 s.acks.length c6,.slice o7 s.purses.length c7]
  | 1=>X=.int .i64 c
  | 2=>X=kv
  | 3=>X=.agg #[.int .i64 m.state,.int .i64 m.client,.int .i64 m.oclient,.int .i64 m.oconn]
  | 4=>Bytes W W.heap.size X (JA m)
  | 5=>X=.agg #[.int .i64 h.height,.int .i64 h.prf.index,.int .i64 h.prf.size,.slice q1 h.prf.key.length e1,.slice q2 h.prf.val.length e2,.slice q3 h.prf.path.length e3,.bool h.gap.hasL,.bool h.gap.hasR,.int .i64 h.gap.left.index,.int .i64 h.gap.left.size,.slice r1 h.gap.left.key.length s1,.slice r2 h.gap.left.val.length s2,.slice r3 h.gap.left.path.length s3,.int .i64 h.gap.right.index,.int .i64 h.gap.right.size,.slice r4 h.gap.right.key.length s4,.slice r5 h.gap.right.val.length s5,.slice r6 h.gap.right.path.length s6]
  | 6=>X=.int .i64 z
  | 7=>X=.int .i64 z
  | _=>True) ?_ (by kernel_rfl) ?_ ?_
 ·intro i X W W' HB H
  match i,H with
  | 0,H=>exact H
  | 1,H=>exact H
  | 2,H=>exact H
  | 3,H=>exact H
  | 4,H=>exact ((H.below HB).mono HB.size)
  | 5,H=>exact H
  | 6,H=>exact H
  | 7,H=>exact H
  | _+8,_=>exact trivial
 ·refine ⟨?_,?_,?_,?_,?_,?_,?_,?_,trivial⟩
  ·
   intro σ W HJ hdep
   simp [Region.binds] at hdep
   have HJ:=hid HJ
   have k0:=(rg hrs HJ).cell 0
   have k1:=(rg hrs HJ).cell 1
   have k2:=(rg hrs HJ).cell 2
   have k3:=(rg hrs HJ).cell 3
   have k4:=(rg hrs HJ).cell 4
   have k5:=(rg hrs HJ).cell 5
   have k6:=(rg hrs HJ).cell 6
   have k7:=(rg hrs HJ).cell 7
   have k8:=(rg hrs HJ).cell 8
   have k9:=(rg hrs HJ).cell 9
   simp at k0
   simp at k1
   simp at k2
   simp at k3
   simp at k4
   simp at k5
   simp at k6
   simp at k7
   simp at k8
   simp at k9
   refine Qa rfl rfl ?_
   go_simp
   exact Qo.mk0 (.agg #[.string s.name,.int .i64 s.height,.int .i64 s.time,.slice o1 s.clients.length c1,.slice o2 s.conns.length c2,.slice o3 s.chans.length c3,.slice o4 s.sent.length c4,.slice o5 s.got.length c5,.slice o6 s.acks.length c6,.slice o7 s.purses.length c7]) (by first | rfl | simp [Qh, *]) HJ.out rfl
  ·
   intro σ W HJ hdep
   simp [Region.binds] at hdep
   have HJ:=hid HJ
   refine Qa rfl rfl ?_
   go_simp
   exact Qo.mk0 (.int .i64 c) (by first | rfl | simp [Qh, *]) HJ.out rfl
  ·
   intro σ W HJ hdep
   simp [Region.binds] at hdep
   have HJ:=hid HJ
   refine Qa rfl rfl ?_
   go_simp
   exact Qo.mk0 (kv) (by first | rfl | simp [Qh, *]) HJ.out rfl
  ·
   intro σ W HJ hdep
   simp [Region.binds] at hdep
   have HJ:=hid HJ
   have k0:=(rg hrm HJ).cell 0
   have k1:=(rg hrm HJ).cell 1
   have k2:=(rg hrm HJ).cell 2
   have k3:=(rg hrm HJ).cell 3
   simp at k0
   simp at k1
   simp at k2
   simp at k3
   refine Qa rfl rfl ?_
   go_simp
   exact Qo.mk0 (.agg #[.int .i64 m.state,.int .i64 m.client,.int .i64 m.oclient,.int .i64 m.oconn]) (by first | rfl | simp [Qh, *]) HJ.out rfl
  ·
   intro σ W HJ hdep
   simp [Region.binds] at hdep
   have HJ:=hid HJ
   have HC:=hid (QeM m hm.out W)
   refine Qa rfl rfl ?_
   go_simp
   refine HC.out.mono ?_
   rintro e w2 ⟨v,rfl,hown,hb2⟩
   exact Qo.mk v (by first | rfl | simp [Qh, *]) hb2 HJ.out hown
  ·
   intro σ W HJ hdep
   simp [Region.binds] at hdep
   have HJ:=hid HJ
   have k0:=(rg hrh HJ).cell 0
   have k1:=(rg hrh HJ).cell 1
   have k2:=(rg hrh HJ).cell 2
   have k3:=(rg hrh HJ).cell 3
   have k4:=(rg hrh HJ).cell 4
   have k5:=(rg hrh HJ).cell 5
   have k6:=(rg hrh HJ).cell 6
   have k7:=(rg hrh HJ).cell 7
   have k8:=(rg hrh HJ).cell 8
   have k9:=(rg hrh HJ).cell 9
   have k10:=(rg hrh HJ).cell 10
   have k11:=(rg hrh HJ).cell 11
   have k12:=(rg hrh HJ).cell 12
   have k13:=(rg hrh HJ).cell 13
   have k14:=(rg hrh HJ).cell 14
   have k15:=(rg hrh HJ).cell 15
   have k16:=(rg hrh HJ).cell 16
   have k17:=(rg hrh HJ).cell 17
   simp at k0
   simp at k1
   simp at k2
   simp at k3
   simp at k4
   simp at k5
   simp at k6
   simp at k7
   simp at k8
   simp at k9
   simp at k10
   simp at k11
   simp at k12
   simp at k13
   simp at k14
   simp at k15
   simp at k16
   simp at k17
   refine Qa rfl rfl ?_
   go_simp
   exact Qo.mk0 (.agg #[.int .i64 h.height,.int .i64 h.prf.index,.int .i64 h.prf.size,.slice q1 h.prf.key.length e1,.slice q2 h.prf.val.length e2,.slice q3 h.prf.path.length e3,.bool h.gap.hasL,.bool h.gap.hasR,.int .i64 h.gap.left.index,.int .i64 h.gap.left.size,.slice r1 h.gap.left.key.length s1,.slice r2 h.gap.left.val.length s2,.slice r3 h.gap.left.path.length s3,.int .i64 h.gap.right.index,.int .i64 h.gap.right.size,.slice r4 h.gap.right.key.length s4,.slice r5 h.gap.right.val.length s5,.slice r6 h.gap.right.path.length s6]) (by first | rfl | simp [Qh, *]) HJ.out rfl
  ·
   intro σ W HJ hdep
   simp [Region.binds] at hdep
   have HJ:=hid HJ
   have hvv:Bytes W W.heap.size (σ 4) (JA m):=by first | exact hdep.2.2.2.1 | exact hdep.2.2.2.2.1 | exact hdep.2.2.1 | exact hdep.2.1 | exact hdep.1
   have HC:=hid (Qhg s (.agg #[.string s.name,.int .i64 s.height,.int .i64 s.time,.slice o1 s.clients.length c1,.slice o2 s.conns.length c2,.slice o3 s.chans.length c3,.slice o4 s.sent.length c4,.slice o5 s.got.length c5,.slice o6 s.acks.length c6,.slice o7 s.purses.length c7]) (.agg #[.int .i64 h.height,.int .i64 h.prf.index,.int .i64 h.prf.size,.slice q1 h.prf.key.length e1,.slice q2 h.prf.val.length e2,.slice q3 h.prf.path.length e3,.bool h.gap.hasL,.bool h.gap.hasR,.int .i64 h.gap.left.index,.int .i64 h.gap.left.size,.slice r1 h.gap.left.key.length s1,.slice r2 h.gap.left.val.length s2,.slice r3 h.gap.left.path.length s3,.int .i64 h.gap.right.index,.int .i64 h.gap.right.size,.slice r4 h.gap.right.key.length s4,.slice r5 h.gap.right.val.length s5,.slice r6 h.gap.right.path.length s6]) kv (σ 4) W.heap.size W c z key (JA m) h ((hsv.out.below (HJ.out.mono hN)).mono (Nat.le_trans hN HJ.out.size)) ((hhv.out.below (HJ.out.mono hN)).mono (Nat.le_trans hN HJ.out.size)) ((hkv.out.below (HJ.out.mono hN)).mono (Nat.le_trans hN HJ.out.size)) hvv (Nat.le_refl _) hsf.out hhf.out (htab.out.past HJ.out) hc hkl hvl hz.out)
   clear hvv
   refine Qa rfl rfl ?_
   go_simp
   refine (HC.out).mono ?_
   rintro e w2 ⟨rfl,hb2⟩
   exact Qo.mk (.int .i64 z) (by first | rfl | simp [Qh, *]) hb2 HJ.out rfl
  ·
   intro σ W HJ hdep
   simp [Region.binds] at hdep
   have HJ:=hid HJ
   refine Qa rfl rfl ?_
   go_simp
   exact Qo.mk0 (.int .i64 z) (by first | rfl | simp [Qh, *]) HJ.out rfl
 ·intro σ w' hb hg
  exact hQ.out σ w' hb (by first | exact ⟨hg 7 (by decide)⟩ | exact hg 7 (by decide))
theorem Qj9 {y0 y1 y4 y6 y7 y8 y9 A0 Ab Am Ax AH AL AW B7 Bi BD Dr C8 Cc Cd Ce Cf Cg Ch Ci Cj Ck Cl Cm Co Cp Cq Cr Cs Ct Cu Cv Cw Cx Cy Cz CA CB CC CD CE CF CG CH CI CJ CK CL CM CN CO CP CQ CR CS CT CU CV CW CX CY CZ D0 D1 D2 D3 D4 D5 D6 D7 D8 D9 Da Db Dc Dd De Df Dg Dh Di Dj Dk Dl Dm Dn Do Dp Dq A1 A2 A3 A4 A5 A6 A7 A8 A9 Aa Ac Ad Ae Af Ag Ah Ai Aj Ak Al An Ao Ap Aq Ar As At Au Av Aw Ay Az AA AB AC AD AE AF AG AI AJ AK AM AN AO AP AQ AR AS AT AU AV AX AY AZ B0 B1 B2 B3 B4 B5 B6 B8 B9 Ba Bb Bc Bd Be Bf Bg Bh Bj Bk Bl Bm Bn Bo Bp Bq Br Bs Bt Bu Bv Bw Bx By Bz BA BB BC BE BF BG BH BI BJ BK BL BM BN BO BP BQ BR BS BT BU BV BW BX BY BZ C0 C1 C2 C3 C4 C5 C6 C7 C9 Ca Cb Ds Dt Du Dv Dw Dx Dy Dz:Value} {gx gm:Nat} (x:Cn) (k:Nat) (q:Int) {w:World} (hrx:Hid (Row w gx 58 [.int .i64 x.state,.int .i64 x.client,.int .i64 x.oclient,.int .i64 x.oconn])) (hrm:Hid (Row w gm 58 [.int .i64 0,.int .i64 0,.int .i64 0,.int .i64 0])) (_hq:0≤q∧q≤1000000000000) (Q:Exit→Act→World→Prop)
  (hQ:Hid (∀ (σ:Nat→Value) (kv:Value) (w2:World),Below w.heap.size w w2→Bytes w2 w2.heap.size kv (Jo QN [q.toNat])→Row w2 gm 58 [.int .i64 0,.int .i64 0,.int .i64 0,.int .i64 0]→Q .normal ⟨#[y0,y1,.int .i64 (k:Int),.int .i64 x.client,y4,.int .i64 q,y6,y7,y8,y9,A0,Ab,Am,Ax,AH,AL,AW,B7,Bi,.pointer (some ⟨gx,0,none⟩),BD,.pointer (some ⟨gm,0,none⟩),kv,C8,Cc,Cd,Ce,Cf,Cg,Ch,Ci,Cj,Ck,Cl,Cm,Co,Cp,Cq,Cr,Cs,Ct,Cu,Cv,Cw,Cx,Cy,Cz,CA,CB,CC,CD,CE,CF,CG,CH,CI,CJ,CK,CL,CM,CN,CO,CP,CQ,CR,CS,CT,CU,CV,CW,CX,CY,CZ,D0,D1,D2,D3,D4,D5,D6,D7,D8,D9,Da,Db,Dc,Dd,De,Df,Dg,Dh,Di,Dj,Dk,Dl,Dm,Dn,Do,Dp,Dq,A1,A2,A3,A4,A5,A6,A7,A8,A9,Aa,Ac,Ad,Ae,Af,Ag,Ah,Ai,Aj,Ak,Al,An,Ao,Ap,Aq,Ar,As,At,Au,Av,Aw,Ay,Az,AA,AB,AC,AD,AE,AF,AG,σ 0,σ 1,σ 2,σ 3,.agg #[.int .i64 2,.int .i64 x.oclient,.int .i64 x.client,.int .i64 (k:Int)],σ 5,σ 6,kv,AI,AJ,AK,AM,AN,AO,AP,AQ,AR,AS,AT,AU,AV,AX,AY,AZ,B0,B1,B2,B3,B4,B5,B6,B8,B9,Ba,Bb,Bc,Bd,Be,Bf,Bg,Bh,Bj,Bk,Bl,Bm,Bn,Bo,Bp,Bq,Br,Bs,Bt,Bu,Bv,Bw,Bx,By,Bz,BA,BB,BC,BE,BF,BG,BH,BI,BJ,BK,BL,BM,BN,BO,BP,BQ,BR,BS,BT,BU,BV,BW,BX,BY,BZ,C0,C1,C2,C3,C4,C5,C6,C7,C9,Ca,Cb],[]⟩ ((((w2.setCell ⟨gm,0,none⟩ (.int .i64 2)).setCell ⟨gm,1,none⟩ (.int .i64 x.oclient)).setCell ⟨gm,2,none⟩ (.int .i64 x.client)).setCell ⟨gm,3,none⟩ (.int .i64 (k:Int))))) :
  Code.wp Tryz.prog (.region 24 ((Tryz.f16.body.bind (Ja 24)).getD #[]) true) Q ⟨#[y0,y1,.int .i64 (k:Int),.int .i64 x.client,y4,.int .i64 q,y6,y7,y8,y9,A0,Ab,Am,Ax,AH,AL,AW,B7,Bi,.pointer (some ⟨gx,0,none⟩),BD,.pointer (some ⟨gm,0,none⟩),Dr,C8,Cc,Cd,Ce,Cf,Cg,Ch,Ci,Cj,Ck,Cl,Cm,Co,Cp,Cq,Cr,Cs,Ct,Cu,Cv,Cw,Cx,Cy,Cz,CA,CB,CC,CD,CE,CF,CG,CH,CI,CJ,CK,CL,CM,CN,CO,CP,CQ,CR,CS,CT,CU,CV,CW,CX,CY,CZ,D0,D1,D2,D3,D4,D5,D6,D7,D8,D9,Da,Db,Dc,Dd,De,Df,Dg,Dh,Di,Dj,Dk,Dl,Dm,Dn,Do,Dp,Dq,A1,A2,A3,A4,A5,A6,A7,A8,A9,Aa,Ac,Ad,Ae,Af,Ag,Ah,Ai,Aj,Ak,Al,An,Ao,Ap,Aq,Ar,As,At,Au,Av,Aw,Ay,Az,AA,AB,AC,AD,AE,AF,AG,Ds,Dt,Du,Dv,Dw,Dx,Dy,Dz,AI,AJ,AK,AM,AN,AO,AP,AQ,AR,AS,AT,AU,AV,AX,AY,AZ,B0,B1,B2,B3,B4,B5,B6,B8,B9,Ba,Bb,Bc,Bd,Be,Bf,Bg,Bh,Bj,Bk,Bl,Bm,Bn,Bo,Bp,Bq,Br,Bs,Bt,Bu,Bv,Bw,Bx,By,Bz,BA,BB,BC,BE,BF,BG,BH,BI,BJ,BK,BL,BM,BN,BO,BP,BQ,BR,BS,BT,BU,BV,BW,BX,BY,BZ,C0,C1,C2,C3,C4,C5,C6,C7,C9,Ca,Cb],[]⟩ w:=by
 conv=>arg 2;arg 2;whnf
 conv=>arg 4;dsimp only
 refine JX 8 (by kernel_rfl) (fun σ=>#[y0,y1,.int .i64 (k:Int),.int .i64 x.client,y4,.int .i64 q,y6,y7,y8,y9,A0,Ab,Am,Ax,AH,AL,AW,B7,Bi,.pointer (some ⟨gx,0,none⟩),BD,.pointer (some ⟨gm,0,none⟩),Dr,C8,Cc,Cd,Ce,Cf,Cg,Ch,Ci,Cj,Ck,Cl,Cm,Co,Cp,Cq,Cr,Cs,Ct,Cu,Cv,Cw,Cx,Cy,Cz,CA,CB,CC,CD,CE,CF,CG,CH,CI,CJ,CK,CL,CM,CN,CO,CP,CQ,CR,CS,CT,CU,CV,CW,CX,CY,CZ,D0,D1,D2,D3,D4,D5,D6,D7,D8,D9,Da,Db,Dc,Dd,De,Df,Dg,Dh,Di,Dj,Dk,Dl,Dm,Dn,Do,Dp,Dq,A1,A2,A3,A4,A5,A6,A7,A8,A9,Aa,Ac,Ad,Ae,Af,Ag,Ah,Ai,Aj,Ak,Al,An,Ao,Ap,Aq,Ar,As,At,Au,Av,Aw,Ay,Az,AA,AB,AC,AD,AE,AF,AG,σ 0,σ 1,σ 2,σ 3,σ 4,σ 5,σ 6,σ 7,AI,AJ,AK,AM,AN,AO,AP,AQ,AR,AS,AT,AU,AV,AX,AY,AZ,B0,B1,B2,B3,B4,B5,B6,B8,B9,Ba,Bb,Bc,Bd,Be,Bf,Bg,Bh,Bj,Bk,Bl,Bm,Bn,Bo,Bp,Bq,Br,Bs,Bt,Bu,Bv,Bw,Bx,By,Bz,BA,BB,BC,BE,BF,BG,BH,BI,BJ,BK,BL,BM,BN,BO,BP,BQ,BR,BS,BT,BU,BV,BW,BX,BY,BZ,C0,C1,C2,C3,C4,C5,C6,C7,C9,Ca,Cb]) (fun i=>([Ds,Dt,Du,Dv,Dw,Dx,Dy,Dz]:List Value).getD i undef) rfl (fun i X W=>match i with
  | 0=>X=.pointer (some ⟨gx,2,none⟩)
  | 1=>X=.int .i64 x.oclient
  | 2=>X=.int .i64 x.client
  | 3=>X=.int .i64 (k:Int)
  | 4=>X=.agg #[.int .i64 2,.int .i64 x.oclient,.int .i64 x.client,.int .i64 (k:Int)]
  | 5=>X=.int .i64 q
  | 6=>∃ r,X=.slice (some ⟨r,0,none⟩) 1 1∧Row W r 3 [.int .i64 q]
  | 7=>Bytes W W.heap.size X (Jo QN [q.toNat])
  | _=>True) ?_ (by kernel_rfl) ?_ ?_
 ·intro i X W W' HB H
  match i,H with
  | 0,H=>exact H
  | 1,H=>exact H
  | 2,H=>exact H
  | 3,H=>exact H
  | 4,H=>exact H
  | 5,H=>exact H
  | 6,H=>exact (by obtain ⟨r,e,hr⟩:=H;exact ⟨r,e,hr.below HB hr.lt⟩)
  | 7,H=>exact ((H.below HB).mono HB.size)
  | _+8,_=>exact trivial
 ·refine ⟨?_,?_,?_,?_,?_,?_,?_,?_,trivial⟩
  ·
   intro σ W HJ hdep
   simp [Region.binds] at hdep
   have HJ:=hid HJ
   refine Qa rfl rfl ?_
   go_simp
   exact Qo.mk0 (.pointer (some ⟨gx,2,none⟩)) (by first | rfl | simp [Qh, *]) HJ.out rfl
  ·
   intro σ W HJ hdep
   simp [Region.binds] at hdep
   have HJ:=hid HJ
   have kc:=(rg hrx HJ).cell 2
   simp at kc
   refine Qa rfl rfl ?_
   go_simp
   exact Qo.mk0 (.int .i64 x.oclient) (by first | rfl | simp [Qh, *]) HJ.out rfl
  ·
   intro σ W HJ hdep
   simp [Region.binds] at hdep
   have HJ:=hid HJ
   refine Qa rfl rfl ?_
   go_simp
   exact Qo.mk0 (.int .i64 x.client) (by first | rfl | simp [Qh, *]) HJ.out rfl
  ·
   intro σ W HJ hdep
   simp [Region.binds] at hdep
   have HJ:=hid HJ
   refine Qa rfl rfl ?_
   go_simp
   exact Qo.mk0 (.int .i64 (k:Int)) (by first | rfl | simp [Qh, *]) HJ.out rfl
  ·
   intro σ W HJ hdep
   simp [Region.binds] at hdep
   have HJ:=hid HJ
   refine Qa rfl rfl ?_
   go_simp
   exact Qo.mk0 (.agg #[.int .i64 2,.int .i64 x.oclient,.int .i64 x.client,.int .i64 (k:Int)]) (by first | rfl | simp [Qh, *]) HJ.out rfl
  ·
   intro σ W HJ hdep
   simp [Region.binds] at hdep
   have HJ:=hid HJ
   refine Qa rfl rfl ?_
   go_simp
   exact Qo.mk0 (.int .i64 q) (by first | rfl | simp [Qh, *]) HJ.out rfl
  ·
   intro σ W HJ hdep
   simp [Region.binds] at hdep
   have HJ:=hid HJ
   refine Qa rfl rfl ?_
   go_simp
   exact Qo.mk (.slice (some ⟨W.heap.size,0,none⟩) 1 1) (by first | rfl | simp [Qh, *]) ((Below.refl _ _).alloc (Nat.le_refl _) _) HJ.out ⟨W.heap.size,rfl,Row.new _ _ _⟩
  ·
   intro σ W HJ hdep
   simp [Region.binds] at hdep
   have HJ:=hid HJ
   obtain ⟨r,er,hrow⟩:∃ r,σ 6=.slice (some ⟨r,0,none⟩) 1 1∧Row W r 3 [.int .i64 q]:=by first | exact hdep | exact hdep.1 | exact hdep.2
   have HC:=hid (QM ⟨#[99,111,110,110]⟩ [q] r 1 W (by decide) hrow rfl (by decide) (fun n hn=>by simp at hn;omega))
   clear hdep hrow
   refine Qa rfl rfl ?_
   go_simp
   refine HC.out.mono ?_
   rintro e w2 ⟨v,rfl,hown,hb2⟩
   exact Qo.mk v (by first | rfl | simp [Qh, *]) hb2 HJ.out hown
 ·intro σ W hj hg
  have HJ:=hid hj
  clear hj
  simp only [List.drop_succ_cons,List.drop_zero]
  have hkv:Bytes W W.heap.size (σ 7) (Jo QN [q.toNat]):=hg 7 (by decide)
  have e4:σ 4=.agg #[.int .i64 2,.int .i64 x.oclient,.int .i64 x.client,.int .i64 (k:Int)]:=hg 4 (by decide)
  have hr:=hrm.out.below HJ.out hrm.out.lt
  have m0:W.cell? ⟨gm,0,none⟩=some (.int .i64 0):=hr.cell 0
  have m1:W.cell? ⟨gm,1,none⟩=some (.int .i64 0):=hr.cell 1
  have m2:W.cell? ⟨gm,2,none⟩=some (.int .i64 0):=hr.cell 2
  have m3:W.cell? ⟨gm,3,none⟩=some (.int .i64 0):=hr.cell 3
  have z0:W.frozen? ⟨gm,0,none⟩=false:=hr.frozen 0
  have z1:W.frozen? ⟨gm,1,none⟩=false:=hr.frozen 1
  have z2:W.frozen? ⟨gm,2,none⟩=false:=hr.frozen 2
  have z3:W.frozen? ⟨gm,3,none⟩=false:=hr.frozen 3
  have HK:=hid hkv
  have HR:=hid hr
  have HJ2:=HJ
  clear hg hkv hr
  rw [e4]
  clear e4
  go_wp2
  exact hQ.out σ (σ 7) W HJ2.out HK.out HR.out
end Go.Proofs.YtooemgkjkngpcaaGreatDoor
