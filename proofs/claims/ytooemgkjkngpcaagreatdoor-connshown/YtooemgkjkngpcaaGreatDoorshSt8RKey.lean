/-
  The document's From, Digits and Key.
-/
import Derived.Test.YtooemgkjkngpcaaGreatDoorshStKey
import Derived.Test.YtooemgkjkngpcaaGreatDoorshSameB
namespace Go.Proofs.YtooemgkjkngpcaaGreatDoor
open Go.RowKit

theorem lets_append (a b:ByteArray):lets (a ++ b)=lets a ++ lets b:=by
  unfold lets
  simp
theorem lets_str (l:List (BitVec 8)):lets (strOfNums (l.map b8))=l:=by
  unfold lets strOfNums
  simp only [List.map_map]
  conv=>rhs;rw [← List.map_id l]
  apply List.map_congr_left
  intro x _
  simp [b8]
set_option maxRecDepth 100000 in
set_option maxHeartbeats 2000000 in
theorem refDigits_any:∀ (n:Nat),n≤10000000000000→∀ (w:World),Calls Tryz.prog 71 #[.int .i64 (n:Int)] w fun e w'=>∃ s,e=.returned (.string s)∧lets s=digN n∧Below w.heap.size w w':=by
  intro n
  induction n using Nat.strongRecOn with
  | _ n ih =>
    intro hn w
    by_cases h:n<10
    · have h':(n:Int)<10:=by omega
      have HD:=hid (digN_small h)
      have ho:=one_new w (BitVec.ofNat 8 (48+n))
      have hb8:b8 (BitVec.ofNat 8 (48+n))=48+(n:Int):=by unfold b8;rw [BitVec.toNat_ofNat];omega
      have hcv:=conv_str ho
      obtain ⟨s,hs⟩:∃ s,strOfNums (List.map b8 [BitVec.ofNat 8 (48+n)])=s:=⟨_,rfl⟩
      have HS:=hid (show lets s=digN n by rw [← hs,HD.out];exact lets_str _)
      rw [hs,hb8] at hcv
      have HB:=hid (show Below w.heap.size w (w.alloc (.cells #[.int .u8 (48+(n:Int))] 5)) from (Below.refl _ _).alloc (Nat.le_refl _) _)
      clear ih hs hb8 ho HD h
      go_enter Tryz.func71,Tryz.ntmps71
      go_wp2
      go_ret
      exact ⟨s,rfl,HS.out,HB.out⟩
    · have h':decide ((n:Int)<10)=false:=by simp;omega
      have HD:=hid (digN_big h)
      have HD2:=hid (digN_small (show n % 10<10 by omega))
      have HC1:=hid (ih (n / 10) (by omega) (by omega))
      have HC2:=hid (ih (n % 10) (by omega) (by omega))
      have q1:((n / 10:Nat):Int)=(n:Int) / 10:=by omega
      have q2:((n % 10:Nat):Int)=(n:Int) % 10:=by omega
      rw [q1] at HC1
      rw [q2] at HC2
      clear ih q1 q2
      go_enter Tryz.func71,Tryz.ntmps71
      go_wp2_with fail
      refine (HC1.out w).mono ?_
      rintro e w1 ⟨s1,rfl,hs1,hb1⟩
      have HS1:=hid hs1
      have HB1:=hid hb1
      clear hs1 hb1
      go_wp2_with fail
      refine (HC2.out w1).mono ?_
      rintro e w2 ⟨s2,rfl,hs2,hb2⟩
      have HS2:=hid hs2
      have HB2:=hid hb2
      have hz1:s1.size≤14:=by rw [← lets_length,HS1.out];exact digN_len 13 _ (by omega)
      have hz2:s2.size≤14:=by rw [← lets_length,HS2.out];exact digN_len 13 _ (by omega)
      have hz:¬ (9223372036854775807<s1.size+s2.size):=by omega
      clear hs2 hb2
      go_wp2
      go_ret
      exact ⟨_,rfl,by rw [lets_append,HS1.out,HS2.out,HD.out,HD2.out],HB1.out.trans (HB2.out.mono HB1.out.size)⟩
set_option maxRecDepth 100000 in
set_option maxHeartbeats 2000000 in
theorem refKey_any8 (kind:ByteArray) (ns:List Int) (g n:Nat) (w:World) (hk:kind.size≤100) (hr:Row w g 3 (ns.map (Value.int .i64))) (hn:n=ns.length) (hl:n≤10) (hp:∀ n∈ns,0≤n∧n≤1000000000000) :
    Calls Tryz.prog 23 #[.string kind,.slice (some ⟨g,0,none⟩) n n] w fun e w'=>∃ v,e=.returned v∧Bytes w' w'.heap.size v (keyL (lets kind) (ns.map (·.toNat)))∧Below w.heap.size w w':=by
  have hgl:=hr.lt
  have HR:=hid hr
  have HP:=hid hp
  have HN:=hid hn
  have hlk:(lets kind).length≤100:=by rw [lets_length];exact hk
  have HLN:=hid (keyP_len (lets kind) ns hp)
  clear hr hp hn
  go_enter Tryz.func23,Tryz.ntmps23
  go_wp2_with fail
  go_loopw [0,9] (fun o i wr=>∃ (k:Nat) (s:ByteArray),k≤n∧i=.int .i64 (k:Int)∧o=.string s∧Hid (lets s=keyP (lets kind) ns k∧Below w.heap.size w wr)) (fun _ i _=>n-(intOf i).toNat)
  case atStart=>exact ⟨0,kind,by omega,rfl,rfl,hid ⟨by simp [keyP],Below.refl _ _⟩⟩
  case round =>
    obtain ⟨k,s,hk',rfl,rfl,HI⟩:=hrel
    have HBW:=hid HI.out.2
    have HOW:=hid HI.out.1
    have hszw:=HBW.out.size
    clear HI
    by_cases hlt:k<n
    · obtain ⟨x,hx⟩:∃ x,ns[k]?=some x:=⟨ns[k]'(by rw [← HN.out];exact hlt),List.getElem?_eq_getElem _⟩
      have hlt':(k:Int)<(n:Int):=by omega
      have c0:wr.cell? ⟨g,k,none⟩=some (.int .i64 x):=by rw [(HR.out.below HBW.out hgl).cell,List.getElem?_map,hx];rfl
      have hx0:=HP.out x (List.mem_of_getElem? hx)
      obtain ⟨u,rfl⟩:∃ u:Nat,x=(u:Int):=⟨x.toNat,by omega⟩
      have HNX:=hid (keyP_next (lets kind) ns k _ hx)
      have HC:=hid (refDigits_any u (by omega))
      have hz1:s.size≤240:=by rw [← lets_length,HOW.out];have:=HLN.out k (by rw [← HN.out];exact hk');omega
      have hz:¬ (9223372036854775807<s.size+1):=by omega
      have hz0:¬ (9223372036854775807<s.size+(ByteArray.mk #[47]).size):=hz
      clear hx
      go_wp2_with fail
      refine (HC.out _).mono ?_
      rintro e w1 ⟨s1,rfl,hs1,hb1⟩
      have HS1:=hid hs1
      have HB1:=hid (HBW.out.trans (hb1.mono hszw))
      have hz2:s1.size≤14:=by rw [← lets_length,HS1.out];exact digN_len 13 _ (by omega)
      have hz3:(s ++ ByteArray.mk #[47]).size=s.size+1:=by rw [ByteArray.size_append];rfl
      have hz4:¬ (9223372036854775807<(s ++ ByteArray.mk #[47]).size+s1.size):=by omega
      have hz5:¬ (9223372036854775807<s.size+1+s1.size):=by omega
      clear hs1 hb1
      go_wp2
      go_roundw
      case rel=>exact ⟨k+1,_,by omega,by go_num,rfl,hid ⟨by rw [lets_append,lets_append,HNX.out,HOW.out,HS1.out];rfl,HB1.out⟩⟩
      case measure=>simp [intOf];omega
    · have hge:decide ((k:Int)<(n:Int))=false:=by simp;omega
      have HE:=hid (keyP_all (lets kind) ns k (by rw [← HN.out];omega))
      have hcv:=conv_text wr s
      have HT:=hid (text_bytes wr s)
      have HTB:=hid (text_below wr s)
      obtain ⟨wb,hwb⟩:∃ wb,Lib.bytesWorld wr 5 s=wb:=⟨_,rfl⟩
      rw [hwb] at hcv HT HTB
      clear hwb
      go_wp2
      go_ret
      exact ⟨_,rfl,by rw [← HE.out,← HOW.out];exact HT.out,HBW.out.trans (HTB.out.mono hszw)⟩
end Go.Proofs.YtooemgkjkngpcaaGreatDoor
