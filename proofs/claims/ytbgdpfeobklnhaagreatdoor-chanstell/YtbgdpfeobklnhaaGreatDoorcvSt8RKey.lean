/-
  The document's From, Digits and Key.
-/
import Derived.Test.YtbgdpfeobklnhaaGreatDoorcvStKey
import Derived.Test.YtbgdpfeobklnhaaGreatDoorcvSameB
namespace Go.Proofs.YtbgdpfeobklnhaaGreatDoor
set_option maxRecDepth 1000000
set_option maxHeartbeats 8000000
open Go.RowKit
theorem Q0 (lo:Int) (ns:List Int) (g n:Nat) (w:World) (hr:Row w g 3 (ns.map (Value.int .i64))) (hn:n=ns.length) (hl:n≤10) :
  Calls Tryz.prog 26 #[.int .i64 lo,.slice (some ⟨g,0,none⟩) n n] w fun e w'=>e=.returned (.bool (ns.all (Qn lo)))∧w'=w:=by
 have HR:=hid hr
 have HN:=hid hn
 clear hr hn
 go_enter Tryz.func26,Tryz.ntmps26
 go_wp2_with fail
 go_loopw [9] (fun i wr=>∃ k:Nat,k≤n∧i=.int .i64 (k:Int)∧wr=w∧Hid (ns.all (Qn lo)=(ns.drop k).all (Qn lo))) (fun i _=>n-(intOf i).toNat)
 case atStart=>exact ⟨0,by omega,rfl,rfl,hid (by simp)⟩
 case round =>
  obtain ⟨k,hk',rfl,rfl,HI⟩:=hrel
  by_cases hlt:k<n
  ·obtain ⟨x,hx⟩:∃ x,ns[k]?=some x:=⟨ns[k]'(by rw [← HN.out];exact hlt),List.getElem?_eq_getElem _⟩
   have hlt':(k:Int)<(n:Int):=by omega
   have c0:wr.cell? ⟨g,k,none⟩=some (.int .i64 x):=by rw [HR.out.cell,List.getElem?_map,hx];rfl
   have HX:=hid (show (ns.drop k).all (Qn lo)=(Qn lo x && (ns.drop (k+1)).all (Qn lo)) by
    obtain ⟨h1,h2⟩:=List.getElem?_eq_some_iff.1 hx
    rw [List.drop_eq_getElem_cons h1,h2,List.all_cons])
   clear hx
   by_cases q1:x<lo
   ·have e1:decide (x<lo)=true:=by simpa using q1
    have HF:=hid (show Qn lo x=false by unfold Qn;simp;omega)
    clear q1
    go_wp2
    go_ret
    exact ⟨by rw [HI.out,HX.out,HF.out];rfl,rfl⟩
   ·have e1:decide (x<lo)=false:=by simpa using q1
    by_cases q2:1000000000000<x
    ·have e2:decide (1000000000000<x)=true:=by simpa using q2
     have HF:=hid (show Qn lo x=false by unfold Qn;simp;omega)
     clear q1 q2
     go_wp2
     go_ret
     exact ⟨by rw [HI.out,HX.out,HF.out];rfl,rfl⟩
    ·have e2:decide (1000000000000<x)=false:=by simpa using q2
     have HF:=hid (show Qn lo x=true by unfold Qn;simp;omega)
     clear q1 q2
     go_wp2
     go_roundw
     case rel=>exact ⟨k+1,by omega,by go_num,by first | trivial | rfl,hid (by rw [HI.out,HX.out,HF.out];rfl)⟩
     case measure=>simp [intOf];omega
  ·have hge:decide ((k:Int)<(n:Int))=false:=by simp;omega
   have HE:=hid (show (ns.drop k).all (Qn lo)=true by rw [List.drop_eq_nil_of_le (by rw [← HN.out];omega)];rfl)
   go_wp2
   go_ret
   exact ⟨by rw [HI.out,HE.out];rfl,rfl⟩
theorem QaD (a b:ByteArray):YF (a ++ b)=YF a ++ YF b:=by
 unfold YF
 simp
theorem Qiu (l:List (BitVec 8)):YF (strOfNums (l.map b8))=l:=by
 unfold YF strOfNums
 simp only [List.map_map]
 conv=>rhs;rw [← List.map_id l]
 apply List.map_congr_left
 intro x _
 simp [b8]
theorem QdH:∀ (n:Nat),n≤10000000000000→∀ (w:World),Calls Tryz.prog 63 #[.int .i64 (n:Int)] w fun e w'=>∃ s,e=.returned (.string s)∧YF s=Yr n∧Below w.heap.size w w':=by
 intro n
 induction n using Nat.strongRecOn with
 | _ n ih =>
  intro hn w
  by_cases h:n<10
  ·have h':(n:Int)<10:=by omega
   have HD:=hid (Qae h)
   have ho:=QgU w (BitVec.ofNat 8 (48+n))
   have hb8:b8 (BitVec.ofNat 8 (48+n))=48+(n:Int):=by unfold b8;rw [BitVec.toNat_ofNat];omega
   have hcv:=QcN ho
   obtain ⟨s,hs⟩:∃ s,strOfNums (List.map b8 [BitVec.ofNat 8 (48+n)])=s:=⟨_,rfl⟩
   have HS:=hid (show YF s=Yr n by rw [← hs,HD.out];exact Qiu _)
   rw [hs,hb8] at hcv
   have HB:=hid (show Below w.heap.size w (w.alloc (.cells #[.int .u8 (48+(n:Int))] 5)) from (Below.refl _ _).alloc (Nat.le_refl _) _)
   clear ih hs hb8 ho HD h
   go_enter Tryz.func63,Tryz.ntmps63
   go_wp2
   go_ret
   exact ⟨s,rfl,HS.out,HB.out⟩
  ·have h':decide ((n:Int)<10)=false:=by simp;omega
   have HD:=hid (QeU h)
   have HD2:=hid (Qae (show n % 10<10 by omega))
   have HC1:=hid (ih (n / 10) (by omega) (by omega))
   have HC2:=hid (ih (n % 10) (by omega) (by omega))
   have q1:((n / 10:Nat):Int)=(n:Int) / 10:=by omega
   have q2:((n % 10:Nat):Int)=(n:Int) % 10:=by omega
   rw [q1] at HC1
   rw [q2] at HC2
   clear ih q1 q2
   go_enter Tryz.func63,Tryz.ntmps63
   go_wp2_with fail
   refine (HC1.out w).mono ?_
   rintro e w1 ⟨s1,rfl,hs1,hb1⟩
   have HS1:=hid hs1
   have HB1:=hid hb1
   clear hs1 hb1
   go_wp2_with fail
   refine (HC2.out w1).mono ?_
   rintro e w2 ⟨s2,rfl,hs2,hb2⟩
   have HS2:=hid hs2
   have HB2:=hid hb2
   have hz1:s1.size≤14:=by rw [← QZ,HS1.out];exact Zr 13 _ (by omega)
   have hz2:s2.size≤14:=by rw [← QZ,HS2.out];exact Zr 13 _ (by omega)
   have hz:¬ (9223372036854775807<s1.size+s2.size):=by omega
   clear hs2 hb2
   go_wp2
   go_ret
   exact ⟨_,rfl,by rw [QaD,HS1.out,HS2.out,HD.out,HD2.out],HB1.out.trans (HB2.out.mono HB1.out.size)⟩
theorem ZL (kind:ByteArray) (ns:List Int) (g n:Nat) (w:World) (hk:kind.size≤100) (hr:Row w g 3 (ns.map (Value.int .i64))) (hn:n=ns.length) (hl:n≤10) (hp:∀ n∈ns,0≤n∧n≤1000000000000) :
  Calls Tryz.prog 28 #[.string kind,.slice (some ⟨g,0,none⟩) n n] w fun e w'=>∃ v,e=.returned v∧Bytes w' w'.heap.size v (Zd (YF kind) (ns.map (·.toNat)))∧Below w.heap.size w w':=by
 have hgl:=hr.lt
 have HR:=hid hr
 have HP:=hid hp
 have HN:=hid hn
 have hlk:(YF kind).length≤100:=by rw [QZ];exact hk
 have HLN:=hid (Qe2 (YF kind) ns hp)
 clear hr hp hn
 go_enter Tryz.func28,Tryz.ntmps28
 go_wp2_with fail
 go_loopw [0,9] (fun o i wr=>∃ (k:Nat) (s:ByteArray),k≤n∧i=.int .i64 (k:Int)∧o=.string s∧Hid (YF s=Qct (YF kind) ns k∧Below w.heap.size w wr)) (fun _ i _=>n-(intOf i).toNat)
 case atStart=>exact ⟨0,kind,by omega,rfl,rfl,hid ⟨by simp [Qct],Below.refl _ _⟩⟩
 case round =>
  obtain ⟨k,s,hk',rfl,rfl,HI⟩:=hrel
  have HBW:=hid HI.out.2
  have HOW:=hid HI.out.1
  have hszw:=HBW.out.size
  clear HI
  by_cases hlt:k<n
  ·obtain ⟨x,hx⟩:∃ x,ns[k]?=some x:=⟨ns[k]'(by rw [← HN.out];exact hlt),List.getElem?_eq_getElem _⟩
   have hlt':(k:Int)<(n:Int):=by omega
   have c0:wr.cell? ⟨g,k,none⟩=some (.int .i64 x):=by rw [(HR.out.below HBW.out hgl).cell,List.getElem?_map,hx];rfl
   have hx0:=HP.out x (List.mem_of_getElem? hx)
   obtain ⟨u,rfl⟩:∃ u:Nat,x=(u:Int):=⟨x.toNat,by omega⟩
   have HNX:=hid (Qb1 (YF kind) ns k _ hx)
   have HC:=hid (QdH u (by omega))
   have hz1:s.size≤240:=by rw [← QZ,HOW.out];have:=HLN.out k (by rw [← HN.out];exact hk');omega
   have hz:¬ (9223372036854775807<s.size+1):=by omega
   have hz0:¬ (9223372036854775807<s.size+(ByteArray.mk #[47]).size):=hz
   clear hx
   go_wp2_with fail
   refine (HC.out _).mono ?_
   rintro e w1 ⟨s1,rfl,hs1,hb1⟩
   have HS1:=hid hs1
   have HB1:=hid (HBW.out.trans (hb1.mono hszw))
   have hz2:s1.size≤14:=by rw [← QZ,HS1.out];exact Zr 13 _ (by omega)
   have hz3:(s ++ ByteArray.mk #[47]).size=s.size+1:=by rw [ByteArray.size_append];rfl
   have hz4:¬ (9223372036854775807<(s ++ ByteArray.mk #[47]).size+s1.size):=by omega
   have hz5:¬ (9223372036854775807<s.size+1+s1.size):=by omega
   clear hs1 hb1
   go_wp2
   go_roundw
   case rel=>exact ⟨k+1,_,by omega,by go_num,rfl,hid ⟨by rw [QaD,QaD,HNX.out,HOW.out,HS1.out];rfl,HB1.out⟩⟩
   case measure=>simp [intOf];omega
  ·have hge:decide ((k:Int)<(n:Int))=false:=by simp;omega
   have HE:=hid (Qe1 (YF kind) ns k (by rw [← HN.out];omega))
   have hcv:=QdT wr s
   have HT:=hid (Qgx wr s)
   have HTB:=hid (Qdh wr s)
   obtain ⟨wb,hwb⟩:∃ wb,Lib.bytesWorld wr 5 s=wb:=⟨_,rfl⟩
   rw [hwb] at hcv HT HTB
   clear hwb
   go_wp2
   go_ret
   exact ⟨_,rfl,by rw [← HE.out,← HOW.out];exact HT.out,HBW.out.trans (HTB.out.mono hszw)⟩
end Go.Proofs.YtbgdpfeobklnhaaGreatDoor
