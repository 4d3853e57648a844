/-
  A law for append: what a slice reads as, onto what the call owns.
  What the document's answer's small functions give: a turned word; a product of two words of 64 bits; whether a power is more than a shifted number; a root's bits. What above and Root answer: whether a power is more than a shifted number; the bits of a root. What Root answers: the bits of a root, one by one; what Primes answers: the first 64 primes. What Primes answers of 64: the first 64 primes, in new memory. Laws and plain facts for the document's Sum: the two tables of roots, the message's padding, four bytes as a word. The document's Sum, its block 8: a block's schedule of 64 words. The document's Sum, its block 12: the 64 rounds of a block. The document's Sum, its block 14: what came of a block is added to the eight words. The document's Sum, its block 6: block by block. The document's Sum, its block 16: the eight words' bytes. What the document's Sum answers: any bytes' digest, as long as they are no longer than a machine can hold.
  What Sum answers: SHA-256 of what its argument reads as, in new memory; nothing that was there turns.
-/
import Derived.Test.YtbgdpfeobklnhaaGreatDoorcvShaAll
import Derived.Test.YtbgdpfeobklnhaaGreatDoorcvMemB
import Derived.Laws.AppendOwnNone
import Derived.WalkLawsBesides
import Derived.WalkSpells
import Derived.Deep.AppendLies
namespace Go.Proofs.YtbgdpfeobklnhaaGreatDoor
set_option maxRecDepth 1000000
set_option maxHeartbeats 8000000
open Go.RowKit
attribute [local go_sem] QfE
theorem QfC (x:BitVec 32) (n:Nat) (hn:n<32) (h0:0<n) (w:World) :
    Calls Tryz.prog 140 #[.int .u32 (u x),.int .i64 (n:Int)] w fun e w'=>e=.returned (.int .u32 (u (Zg x n)))∧w'=w.drew:=by
  have hn':(n:Int)<32:=by omega
  have hw:IntKind.i64.wrap (32-(n:Int))=((32-n:Nat):Int):=by simp [IntKind.wrap,IntKind.bits,IntKind.signed];split <;> omega
  have hnn:(0:Int)≤(n:Int):=by omega
  have hnn2:(0:Int)≤((32-n:Nat):Int):=by omega
  go_enter Tryz.func140,Tryz.ntmps140
  go_wp2_with fail
  refine Jz (by kernel_rfl) (by kernel_rfl) ?_
  repeat still_step
  refine wpStill_nil ?_
  go_wp2
  go_ret
  refine ⟨?_,rfl⟩
  show Ending.returned (Value.int .u32 (bits .or .u32 (u x / 2 ^ n) (IntKind.u32.wrap (u x*2 ^ (32-n)))))=_
  rw [IntKind.wrap_u32',QfF,Qcn,QfE]
  unfold Zg
  rw [BitVec.or_comm]
theorem QeJ (x p h l:Nat) (w:World) (hm:Hid (∀ w:World,Calls Tryz.prog 163 #[.int .u64 (x:Int),.int .u64 (x:Int)] w fun e w'=>e=.returned (.tuple #[.int .u64 (h:Int),.int .u64 (l:Int)])∧w'=w)) :
    Calls Tryz.prog 151 #[.int .u64 (x:Int),.int .u64 (p:Int),.bool true] w fun e w'=>e=.returned (.bool (decide (p<h∨(h=p∧0<l))))∧w'=w:=by
  rcases Nat.lt_trichotomy p h with h1 | h1 | h1
  · have d1:decide ((p:Int)<(h:Int))=true:=by simp;omega
    have hr:=hid (show decide (p<h∨(h=p∧0<l))=true by simp;omega)
    go_enter Tryz.func151,Tryz.ntmps151
    go_wp2_with (go_at_call 163;refine (hm.out _).mono ?_;rintro e w' ⟨rfl,rfl⟩)
    go_ret
    exact ⟨by rw [hr.out];rfl,rfl⟩
  · subst h1
    by_cases hl:0<l
    · have d2:decide ((0:Int)<(l:Int))=true:=by simp;omega
      have hr:=hid (show decide (p<p∨(p=p∧0<l))=true by simp;omega)
      go_enter Tryz.func151,Tryz.ntmps151
      go_wp2_with (go_at_call 163;refine (hm.out _).mono ?_;rintro e w' ⟨rfl,rfl⟩)
      go_ret
      exact ⟨by rw [hr.out];rfl,rfl⟩
    · have hl0:l=0:=by omega
      subst hl0
      have hr:=hid (show decide (p<p∨(p=p∧0<0))=false by simp)
      go_enter Tryz.func151,Tryz.ntmps151
      go_wp2_with (go_at_call 163;refine (hm.out _).mono ?_;rintro e w' ⟨rfl,rfl⟩)
      go_ret
      exact ⟨by rw [hr.out];rfl,rfl⟩
  · have d1:decide ((p:Int)<(h:Int))=false:=by simp;omega
    have d2:((h:Int) == (p:Int))=false:=by simp;omega
    have d3:decide (p<h)=false:=by simp;omega
    have hr:=hid (show decide (p<h∨(h=p∧0<l))=false by simp;omega)
    go_enter Tryz.func151,Tryz.ntmps151
    go_wp2_with (go_at_call 163;refine (hm.out _).mono ?_;rintro e w' ⟨rfl,rfl⟩)
    go_ret
    exact ⟨by rw [hr.out];rfl,rfl⟩
theorem QeK (x p h l a b c d mid carry top wt wm:Nat) (w:World)
    (hm1:Hid (∀ w:World,Calls Tryz.prog 163 #[.int .u64 (x:Int),.int .u64 (x:Int)] w fun e w'=>e=.returned (.tuple #[.int .u64 (h:Int),.int .u64 (l:Int)])∧w'=w))
    (hm2:Hid (∀ w:World,Calls Tryz.prog 163 #[.int .u64 (l:Int),.int .u64 (x:Int)] w fun e w'=>e=.returned (.tuple #[.int .u64 (a:Int),.int .u64 (b:Int)])∧w'=w))
    (hm3:Hid (∀ w:World,Calls Tryz.prog 163 #[.int .u64 (h:Int),.int .u64 (x:Int)] w fun e w'=>e=.returned (.tuple #[.int .u64 (c:Int),.int .u64 (d:Int)])∧w'=w))
    (ha:∀ w:World,(callFunc 164 #[.int .u64 (a:Int),.int .u64 (d:Int),.int .u64 0]).run Tryz.prog w=.ok (.value (.tuple #[.int .u64 (mid:Int),.int .u64 (carry:Int)])) w)
    (ht:IntKind.u64.wrap ((c:Int)+(carry:Int))=(top:Int)) (hwt:(p:Int) / (4294967296:Int)=(wt:Int)) (hwm:IntKind.u64.wrap ((p:Int)*(4294967296:Int))=(wm:Int)) :
    Calls Tryz.prog 151 #[.int .u64 (x:Int),.int .u64 (p:Int),.bool false] w fun e w'=>e=.returned (.bool (decide (wt<top∨(top=wt∧(wm<mid∨(mid=wm∧0<b))))))∧w'=w:=by
  rcases Nat.lt_trichotomy wt top with h1 | h1 | h1
  · have d1:decide ((wt:Int)<(top:Int))=true:=by simp;omega
    have d1':decide (wt<top)=true:=by simp;omega
    have hr:=hid (show decide (wt<top∨(top=wt∧(wm<mid∨(mid=wm∧0<b))))=true by simp;omega)
    go_enter Tryz.func151,Tryz.ntmps151
    go_wp2_with fail
    refine (hm1.out _).mono ?_
    rintro e w' ⟨rfl,rfl⟩
    go_wp2_with fail
    refine (hm2.out _).mono ?_
    rintro e w' ⟨rfl,rfl⟩
    go_wp2_with fail
    refine (hm3.out _).mono ?_
    rintro e w' ⟨rfl,rfl⟩
    go_wp2
    go_ret
    exact ⟨by rw [hr.out];rfl,rfl⟩
  · subst h1
    rcases Nat.lt_trichotomy wm mid with h2 | h2 | h2
    · have d1:decide ((wm:Int)<(mid:Int))=true:=by simp;omega
      have d1':decide (wm<mid)=true:=by simp;omega
      have hr:=hid (show decide (wt<wt∨(wt=wt∧(wm<mid∨(mid=wm∧0<b))))=true by simp;omega)
      go_enter Tryz.func151,Tryz.ntmps151
      go_wp2_with fail
      refine (hm1.out _).mono ?_
      rintro e w' ⟨rfl,rfl⟩
      go_wp2_with fail
      refine (hm2.out _).mono ?_
      rintro e w' ⟨rfl,rfl⟩
      go_wp2_with fail
      refine (hm3.out _).mono ?_
      rintro e w' ⟨rfl,rfl⟩
      go_wp2
      go_ret
      exact ⟨by rw [hr.out];rfl,rfl⟩
    · subst h2
      by_cases hb:0<b
      · have d1:decide ((0:Int)<(b:Int))=true:=by simp;omega
        have d1':decide (0<b)=true:=by simp;omega
        have hr:=hid (show decide (wt<wt∨(wt=wt∧(wm<wm∨(wm=wm∧0<b))))=true by simp;omega)
        go_enter Tryz.func151,Tryz.ntmps151
        go_wp2_with fail
        refine (hm1.out _).mono ?_
        rintro e w' ⟨rfl,rfl⟩
        go_wp2_with fail
        refine (hm2.out _).mono ?_
        rintro e w' ⟨rfl,rfl⟩
        go_wp2_with fail
        refine (hm3.out _).mono ?_
        rintro e w' ⟨rfl,rfl⟩
        go_wp2
        go_ret
        exact ⟨by rw [hr.out];rfl,rfl⟩
      · obtain rfl:b=0:=by omega
        have hr:=hid (show decide (wt<wt∨(wt=wt∧(wm<wm∨(wm=wm∧0<0))))=false by simp)
        go_enter Tryz.func151,Tryz.ntmps151
        go_wp2_with fail
        refine (hm1.out _).mono ?_
        rintro e w' ⟨rfl,rfl⟩
        go_wp2_with fail
        refine (hm2.out _).mono ?_
        rintro e w' ⟨rfl,rfl⟩
        go_wp2_with fail
        refine (hm3.out _).mono ?_
        rintro e w' ⟨rfl,rfl⟩
        go_wp2
        go_ret
        exact ⟨by rw [hr.out];rfl,rfl⟩
    · have d1:decide ((wm:Int)<(mid:Int))=false:=by simp;omega
      have d1':decide (wm<mid)=false:=by simp;omega
      have d2:((mid:Int) == (wm:Int))=false:=by simp;omega
      have hr:=hid (show decide (wt<wt∨(wt=wt∧(wm<mid∨(mid=wm∧0<b))))=false by simp;omega)
      go_enter Tryz.func151,Tryz.ntmps151
      go_wp2_with fail
      refine (hm1.out _).mono ?_
      rintro e w' ⟨rfl,rfl⟩
      go_wp2_with fail
      refine (hm2.out _).mono ?_
      rintro e w' ⟨rfl,rfl⟩
      go_wp2_with fail
      refine (hm3.out _).mono ?_
      rintro e w' ⟨rfl,rfl⟩
      go_wp2
      go_ret
      exact ⟨by rw [hr.out];rfl,rfl⟩
  · have d1:decide ((wt:Int)<(top:Int))=false:=by simp;omega
    have d1':decide (wt<top)=false:=by simp;omega
    have d2:((top:Int) == (wt:Int))=false:=by simp;omega
    have hr:=hid (show decide (wt<top∨(top=wt∧(wm<mid∨(mid=wm∧0<b))))=false by simp;omega)
    go_enter Tryz.func151,Tryz.ntmps151
    go_wp2_with fail
    refine (hm1.out _).mono ?_
    rintro e w' ⟨rfl,rfl⟩
    go_wp2_with fail
    refine (hm2.out _).mono ?_
    rintro e w' ⟨rfl,rfl⟩
    go_wp2_with fail
    refine (hm3.out _).mono ?_
    rintro e w' ⟨rfl,rfl⟩
    go_wp2
    go_ret
    exact ⟨by rw [hr.out];rfl,rfl⟩
def QbT (x p:Nat) (two:Bool):Bool:=if two then decide (p*18446744073709551616<x*x) else decide (p*79228162514264337593543950336<x*x*x)
theorem Qg6 (x p:Nat) (two:Bool) (hx:x<2199023255552) (hp:p<4294967296) (w:World) :
    Calls Tryz.prog 151 #[.int .u64 (x:Int),.int .u64 (p:Int),.bool two] w fun e w'=>e=.returned (.bool (QbT x p two))∧w'=w:=by
  have hX:x*x<4835703278458516698824704:=Nat.mul_lt_mul'' hx hx
  cases two with
  | true =>
    have h:=QeJ x p (x*x / 18446744073709551616) (x*x % 18446744073709551616) w (hid (QaY x x (by omega) (by omega)))
    refine h.mono ?_
    rintro e w' ⟨rfl,rfl⟩
    refine ⟨?_,rfl⟩
    congr 2
    unfold QbT
    generalize x*x=X at *
    simp only [if_true]
    rw [decide_eq_decide]
    omega
  | false =>
    have hh:x*x / 18446744073709551616<262144:=by omega
    have hU:x*x / 18446744073709551616*x<262144*2199023255552:=Nat.mul_lt_mul'' hh hx
    have h3:x*x*x=(x*x / 18446744073709551616*x)*18446744073709551616+x*x % 18446744073709551616*x:=by
      have e:=Nat.div_add_mod (x*x) 18446744073709551616
      have e2:x*x*x=(18446744073709551616*(x*x / 18446744073709551616)+x*x % 18446744073709551616)*x:=by rw [e]
      rw [e2,Nat.add_mul,Nat.mul_assoc,Nat.mul_comm]
    have hl:x*x % 18446744073709551616<18446744073709551616:=by omega
    have m1:=QaY x x (by omega) (by omega)
    have m2:=QaY (x*x % 18446744073709551616) x hl (by omega)
    have m3:=QaY (x*x / 18446744073709551616) x (by omega) (by omega)
    have hV:x*x % 18446744073709551616*x<18446744073709551616*2199023255552:=Nat.mul_lt_mul'' hl hx
    unfold QbT
    rw [h3]
    generalize x*x / 18446744073709551616*x=U at *
    generalize x*x % 18446744073709551616*x=V at *
    generalize x*x / 18446744073709551616=h at *
    generalize x*x % 18446744073709551616=l at *
    have ha:∀ w:World,(callFunc 164 #[.int .u64 ((V / 18446744073709551616:Nat):Int),.int .u64 ((U % 18446744073709551616:Nat):Int),.int .u64 0]).run Tryz.prog w =
        .ok (.value (.tuple #[.int .u64 (((V / 18446744073709551616+U % 18446744073709551616) % 18446744073709551616:Nat):Int),.int .u64 (((V / 18446744073709551616+U % 18446744073709551616) / 18446744073709551616:Nat):Int)])) w:=fun w=>by
      rw [run_callFunc_extern Tryz.func164 (by kernel_rfl) (by kernel_rfl) (by kernel_rfl) (e:=add64Entry) (by kernel_rfl),run_add64 _ _ 0 (by omega) (by omega) (by omega) (by omega)]
      simp only [Result.andThen]
      congr 5 <;> omega
    have hc:=QeK x p h l (V / 18446744073709551616) (V % 18446744073709551616) (U / 18446744073709551616) (U % 18446744073709551616) _ _ (U / 18446744073709551616+(V / 18446744073709551616+U % 18446744073709551616) / 18446744073709551616) (p / 4294967296) (p*4294967296 % 18446744073709551616) w
      (hid m1) (hid m2) (hid m3) ha (QbM _ _ (by omega)) (by omega) (by rw [show ((p:Int)*(4294967296:Int))=(p:Int)*((4294967296:Nat):Int) from rfl];exact Qdk p 4294967296)
    refine hc.mono ?_
    rintro e w' ⟨rfl,rfl⟩
    refine ⟨?_,rfl⟩
    congr 2
    simp only [Bool.false_eq_true,if_false]
    rw [decide_eq_decide]
    omega
def Qan (p:Nat) (two:Bool):Nat→Nat
  | 0=>0
  | j+1=>if QbT (Qan p two j ||| 2 ^ (40-j)) p two then Qan p two j else Qan p two j ||| 2 ^ (40-j)
theorem Qb6 (p:Nat) (two:Bool):∀ j,Qan p two j<2 ^ 41
  | 0=>by simp [Qan]
  | j+1=>by
    unfold Qan
    split
    · exact Qb6 p two j
    · exact Nat.or_lt_two_pow (Qb6 p two j) (Nat.pow_lt_pow_right (by omega) (by omega))
def J8 (p:Nat) (two:Bool):BitVec 32:=BitVec.ofNat 32 (Qan p two 41)
theorem Qfr (p:Nat) (two:Bool) (hp:p<4294967296) (w:World) :
    Calls Tryz.prog 139 #[.int .u64 (p:Int),.bool two] w fun e w'=>e=.returned (.int .u32 (u (J8 p two)))∧w'=w:=by
  have HP:=hid hp
  clear hp
  go_enter Tryz.func139,Tryz.ntmps139
  go_wp2_with fail
  go_loopw [5,6] (fun v i wr=>∃ j x:Nat,j≤41∧i=.int .i64 ((40:Int)-(j:Int))∧v=.int .u64 (x:Int)∧Hid (x=Qan p two j)∧w=wr) (fun _ i _=>(intOf i+1).toNat)
  case atStart=>exact ⟨0,0,by omega,by go_num,rfl,rfl,rfl⟩
  case round =>
    obtain ⟨j,x,hj,rfl,rfl,HX,rfl⟩:=hrel
    by_cases hlt:j<41
    · have hxl:x<2199023255552:=by rw [HX.out];exact Qb6 p two j
      have e1:((40:Int)-(j:Int)).toNat=40-j:=by omega
      have h0:(0:Int)≤(40:Int)-(j:Int):=by omega
      have h0':(j:Int)≤40:=by omega
      obtain ⟨y,hy⟩:∃ y,x ||| 2 ^ (40-j)=y:=⟨_,rfl⟩
      have hyl:y<2199023255552:=by rw [← hy];exact Nat.or_lt_two_pow (n:=41) hxl (Nat.pow_lt_pow_right (by omega) (by omega))
      have HY:=hid hy
      have HYL:=hid hyl
      have hor:bits .or .u64 (x:Int) (IntKind.u64.wrap ((2:Int) ^ (40-j)))=(y:Int):=by
        have hpw:(2:Nat) ^ (40-j)<18446744073709551616:=Nat.lt_of_lt_of_le (Nat.pow_lt_pow_right (by omega) (show 40-j<41 by omega)) (by decide)
        have e:((2:Int) ^ (40-j))=(((2:Nat) ^ (40-j):Nat):Int):=by simp
        rw [e,w64 _ hpw,u64_or_nat _ _ (by omega) hpw,HY.out]
      have hstep:=hid (show Qan p two (j+1)=if QbT y p two then x else y by rw [← HY.out,HX.out];rfl)
      obtain ⟨b,hb⟩:∃ b,QbT y p two=b:=⟨_,rfl⟩
      have habove:=Qg6 y p two hyl HP.out
      rw [hb] at habove
      have HA:=hid habove
      have HBB:=hid hb
      clear hy hyl habove hb hxl
      cases b
      · go_wp2_with (go_at_call 151;refine (HA.out _).mono ?_;rintro e w' ⟨rfl,rfl⟩)
        go_roundw
        case rel=>exact ⟨j+1,y,by omega,by congr 1;omega,rfl,(by show _=_;rw [hstep.out,HBB.out];rfl),by trivial⟩
        case measure=>simp [intOf];omega
      · go_wp2_with (go_at_call 151;refine (HA.out _).mono ?_;rintro e w' ⟨rfl,rfl⟩)
        go_roundw
        case rel=>exact ⟨j+1,x,by omega,by congr 1;omega,rfl,(by show _=_;rw [hstep.out,HBB.out];rfl),by trivial⟩
        case measure=>simp [intOf];omega
    · obtain rfl:j=41:=by omega
      have hw:IntKind.u32.wrap (x:Int)=u (J8 p two):=by
        rw [Yh];unfold u J8;rw [← HX.out];simp
      go_wp2
      go_ret
      exact ⟨rfl,rfl⟩
def P64 (n:Nat):Value:=.int .u64 (n:Int)
def Qt:Nat→List Nat
  | 0=>[]
  | k+1=>if (Qt k).all (fun q=>(2+k) % q != 0) then Qt k ++ [2+k] else Qt k
theorem Zf:∀ k,∀ q∈Qt k,2≤q∧q<2+k
  | 0,q,h=>by simp [Qt] at h
  | k+1,q,h=>by
    unfold Qt at h
    split at h
    · rcases List.mem_append.1 h with h | h
      · have:=Zf k q h;omega
      · simp at h;omega
    · have:=Zf k q h;omega
theorem QdF (k:Nat):(Qt k).length≤(Qt (k+1)).length:=by
  show _≤(if _ then _ else _:List Nat).length
  split
  · simp
  · exact Nat.le_refl _
theorem Qfj (k m:Nat) (h:k≤m):(Qt k).length≤(Qt m).length:=by
  induction m with
  | zero => obtain rfl:k=0:=by omega
            exact Nat.le_refl _
  | succ m ih =>
    by_cases e:k=m+1
    · subst e;exact Nat.le_refl _
    · exact Nat.le_trans (ih (by omega)) (QdF m)
theorem Qgi:(Qt 309).length=63:=by decide +kernel
theorem Zx:(Qt 310).length=64:=by decide +kernel
theorem Qiq:(Tryz.prog.info? 73).map (fun i=>(i.zero,i.size,i.bytes))=some (some (.int .u64 0),1,8):=by kernel_rfl
theorem Qgj (w:World) :
    Calls Tryz.prog 138 #[.int .i64 64] w fun e w'=>∃ v,e=.returned v∧w'.ownsRow w.heap.size 73 1 v 64 ((Qt 310).map P64)∧Below w.heap.size w w':=by
  obtain ⟨i0,hi0,hz0,hz1,hz2⟩:=info_parts Qiq
  go_enter Tryz.func138,Tryz.ntmps138
  go_wp2_with fail
  go_loopw [3,4] (fun v pv wr=>∃ k:Nat,k≤310∧pv=.int .u64 (2+(k:Int))∧wr.ownsRow w.heap.size 73 1 v (Qt k).length ((Qt k).map P64)∧Below w.heap.size w wr) (fun _ pv _=>312-(intOf pv).toNat)
  case atStart=>exact ⟨0,by omega,by go_num,World.ownsRow_nil _ _ _ _,Below.refl _ _⟩
  case round =>
    obtain ⟨k,hk,rfl,hown,hbe⟩:=hrel
    have hszr:=hbe.size
    obtain ⟨oa,cap,rfl,hcap,hsome⟩:=QK hown
    by_cases hlt:k<310
    · have hlen:(Qt k).length<64:=by have h1:=Qfj k 309 (by omega);rw [Qgi] at h1;omega
      have hmem:=Zf k
      have HO:=hid hown
      have HB:=hid hbe
      have HS:=hid hsome
      have hnext:=hid (show Qt (k+1)=if (Qt k).all (fun q=>(2+k) % q != 0) then Qt k ++ [2+k] else Qt k from rfl)
      obtain ⟨l,hl⟩:∃ l,Qt k=l:=⟨_,rfl⟩
      rw [hl] at HO HS hlen hmem hcap hnext ⊢
      have HMEM:=hid hmem
      clear hown hbe hsome hmem hl
      generalize hn:l.length=n at *
      have HN:=hid hn
      have hn64:(n:Int)<64:=by omega
      clear hn
      go_wp2_with fail
      go_loopw [5,16] (fun ok iv w'=>∃ j:Nat,j≤n∧iv=.int .i64 j∧ok=.bool ((l.take j).all (fun q=>(2+k) % q != 0))∧wr=w') (fun _ iv _=>n-(intOf iv).toNat)
      case atStart=>exact ⟨0,by omega,rfl,rfl,rfl⟩
      case round =>
        obtain ⟨j,hj,rfl,rfl,rfl⟩:=hrel
        by_cases hjn:j<n
        · obtain ⟨g,rfl,hg,hgl,hc⟩:=HS.out (by omega)
          have dj:=(hc j hjn).1
          rw [List.getElem?_map,getD_some l j 0 (by rw [HN.out];exact hjn)] at dj
          obtain ⟨q,hq⟩:∃ q,l.getD j 0=q:=⟨_,rfl⟩
          have hqm:=HMEM.out q (by rw [← hq];simp [show j<l.length by rw [HN.out];exact hjn])
          have dq:wr.cell? ⟨g,j,none⟩=some (.int .u64 (q:Int)):=by rw [← hq];exact dj
          have hall:=hid (show (l.take (j+1)).all (fun q=>(2+k) % q != 0)=((l.take j).all (fun q=>(2+k) % q != 0) && ((2+k) % q != 0)) by
            rw [List.take_succ_eq_append_getElem (by rw [HN.out];exact hjn),List.all_append,← hq]
            simp [show j<l.length by rw [HN.out];exact hjn])
          clear dj hc hq
          have hq0:(0:Int)<(q:Int):=by omega
          have hqne:((q:Int) == 0)=false:=by simp;omega
          have hjl:(j:Int)<(n:Int):=by omega
          generalize (l.take j).all (fun q=>(2+k) % q != 0)=ok at *
          cases ok
          · go_wp2_with fail
            exact ⟨⟨j+1,by omega,by go_num,by rw [hall.out];rfl,trivial⟩,by simp [intOf];omega⟩
          · have hbn:((2+(k:Int)) % (q:Int) != 0)=((2+k) % q != 0):=by
              have e:(2+(k:Int)) % (q:Int)=(((2+k) % q:Nat):Int):=by simp
              rw [e,Bool.eq_iff_iff]
              simp only [bne_iff_ne,ne_eq]
              omega
            have HBN:=hid hbn
            clear hbn
            go_wp2_with fail
            exact ⟨⟨j+1,by omega,by go_num,by rw [hall.out,HBN.out];rfl,trivial⟩,by simp [intOf];omega⟩
        · have hjn2:l.take j=l:=List.take_of_length_le (by rw [HN.out];omega)
          rw [hjn2]
          have hpw:IntKind.u64.wrap (2+(k:Int)+1)=2+(k:Int)+1:=by simp [IntKind.wrap,IntKind.bits,IntKind.signed];omega
          generalize hok:l.all (fun q=>(2+k) % q != 0)=ok at *
          clear hok hjn2
          cases ok
          · go_wp2_with fail
            go_roundw
            case rel =>
              have hnx:=hnext.out
              simp only [Bool.false_eq_true,if_false] at hnx
              exact ⟨k+1,by omega,by rw [show 2+((k+1:Nat):Int)=2+(k:Int)+1 by omega],by rw [hnx,HN.out];exact HO.out,HB.out⟩
            case measure=>simp [intOf];omega
          · go_wp2_with (at_builtin;refine wpList_append_own _ rfl (.tmp 29) (.tmp 31) 178 rfl w.heap.size 73 i0 (.int .u64 0) 1 8 Tryz.underlying178 hi0 hz0 hz1 hz2 rfl (by decide) _ _ _ rfl (HO.out.alloc _) ⟨wr.heap.size,0,none⟩ 1 1 [.int .u64 (2+(k:Int))] rfl rfl (Ju _ _ _) (by simp [Value.oneCell']) (by unfold maxLen;omega) (by omega) (by simp;omega) ?_;intro v' w1 hown' hgrow hnil)
            go_roundw
            case rel =>
              have hnx:=hnext.out
              simp only [if_true] at hnx
              refine ⟨k+1,by omega,by rw [show 2+((k+1:Nat):Int)=2+(k:Int)+1 by omega],?_,(HB.out.alloc hszr _).grown hgrow (by simp;omega) (fun q hq=>(HO.out.lt q hq).1)⟩
              rw [hnx,List.length_append,HN.out,List.map_append]
              exact hown'
            case measure=>simp [intOf];omega
    · obtain rfl:k=310:=by omega
      rw [Zx] at hown hcap ⊢
      have HO:=hid hown
      have HB:=hid hbe
      clear hown hbe hsome
      go_wp2_with fail
      go_ret
      exact ⟨_,rfl,HO.out,HB.out⟩
theorem Qe0:(Tryz.prog.info? 163).map (fun i=>(i.zero,i.size,i.bytes))=some (some (.int .u32 0),1,4):=by kernel_rfl
def kTo (t:Nat):List (BitVec 32):=((Qt 310).take t).map fun p=>J8 p false
def hTo (t:Nat):List (BitVec 32):=((Qt 310).take t).map fun p=>J8 p true
theorem Qjq:kTo 64=Qbi:=by decide +kernel
theorem Qjp:hTo 8=Jm.list:=by decide +kernel
theorem Qir (t:Nat) (h:t<64):kTo (t+1)=kTo t ++ [J8 ((Qt 310).getD t 0) false]:=by
  have hl:t<(Qt 310).length:=by rw [Zx];exact h
  have e:(Qt 310).getD t 0=(Qt 310)[t]:=by simp [hl]
  unfold kTo
  rw [List.take_succ_eq_append_getElem hl,e,List.map_append]
  rfl
theorem Qip (t:Nat) (h:t<64):hTo (t+1)=hTo t ++ [J8 ((Qt 310).getD t 0) true]:=by
  have hl:t<(Qt 310).length:=by rw [Zx];exact h
  have e:(Qt 310).getD t 0=(Qt 310)[t]:=by simp [hl]
  unfold hTo
  rw [List.take_succ_eq_append_getElem hl,e,List.map_append]
  rfl
theorem QiI (t:Nat) (h:t<64):(Qt 310).getD t 0<4294967296:=by
  have hl:t<(Qt 310).length:=by rw [Zx];exact h
  have:=Zf 310 ((Qt 310).getD t 0) (by simp [hl])
  omega
def Qa5 (v v':Value):Prop:=∀ g,v.ownBlock=some g→v'.ownBlock≠some g
theorem Qha (v:Value):Qa5 (.slice none 0 0) v:=fun g h=>by cases h
theorem Qa5.ne {v v':Value} (h:Qa5 v v'):v.ownBlock=none∨v.ownBlock≠v'.ownBlock:=by
  cases hv:v.ownBlock with
  | none=>exact .inl rfl
  | some g=>exact .inr (fun e=>h g hv e.symm)
theorem Qa5.symm {v v':Value} (h:Qa5 v v'):Qa5 v' v:=fun g h1 h2=>h g h2 h1
theorem Qa5.app {v v':Value} {g n cap H:Nat} (h:Qa5 v v') (hat:v.ownBlock=some g∨g=H) (hv:∀ k,v'.ownBlock=some k→k<H):Qa5 (.slice (some ⟨g,0,none⟩) n cap) v':=by
  intro k hk h2
  have:g=k:=Option.some.inj hk
  subst this
  rcases hat with h3 | h3
  · exact h g h3 h2
  · have:=hv g h2;omega
theorem JZ {B:Nat} {a w w':World} {v:Value} {e n:Nat} {xs:List Value} (h:Below B a w) (hB:B≤w.heap.size) (ho:w.ownsRow B e 1 v n xs) (o:Obj) (hg:(w.alloc o).grownBy w' v.ownBlock):Below B a w' :=
  (h.alloc hB o).grown hg (by simp;omega) (fun k hk=>(ho.lt k hk).1)
def Z5 (l:List (BitVec 8)) (z r:Nat):List (BitVec 8):=l ++ [128] ++ List.replicate z 0 ++ (be8 (8*l.length)).take r
theorem Qgf (l:List (BitVec 8)) (z:Nat):Z5 l (z+1) 0=Z5 l z 0 ++ [0]:=by
  simp [Z5,List.replicate_succ']
theorem Qge (l:List (BitVec 8)) (z r:Nat) (h:r<8):Z5 l z (r+1)=Z5 l z r ++ [BitVec.ofNat 8 (8*l.length / 2 ^ (8*(7-r)))]:=by
  unfold Z5
  have hl:r<(be8 (8*l.length)).length:=by simp [be8];omega
  have hb:=Qh6 (8*l.length) r h
  rw [List.getElem?_eq_getElem hl] at hb
  rw [List.take_succ_eq_append_getElem hl,Option.some.inj hb]
  simp
theorem QhJ (l:List (BitVec 8)):Z5 l (JX l.length) 8=JS l:=by
  simp [Z5,JS,be8]
theorem QiD (n z:Nat) (h:z<JX n):(((n+1+z:Nat):Int) % 64 != 56)=true:=by
  unfold JX at h;rw [bne_iff_ne];omega
theorem QiC (n:Nat):(((n+1+JX n:Nat):Int) % 64 != 56)=false:=by
  unfold JX;rw [bne_eq_false_iff_eq];omega
def Z2 (b:List (BitVec 8)) (i:Nat):Nat→BitVec 32
  | 0=>0
  | r+1=>Z2 b i r*256+(b.getD (4*i+r) 0).setWidth 32
theorem Qi4 (x:BitVec 32):IntKind.u32.wrap (u x*(256:Int))=u (x*256):=by
  unfold u
  have e:(x.toNat:Int)*(256:Int)=((x.toNat*256:Nat):Int):=by simp
  rw [e,Yh]
  simp
theorem Qho (b:List (BitVec 8)) (i:Nat):Z2 b i 4=be4 (b.getD (4*i) 0) (b.getD (4*i+1) 0) (b.getD (4*i+2) 0) (b.getD (4*i+3) 0):=by
  unfold Z2 Z2 Z2 Z2 Z2 be4
  generalize b.getD (4*i) 0=p
  generalize b.getD (4*i+1) 0=q
  generalize b.getD (4*i+2) 0=r
  generalize b.getD (4*i+3) 0=s
  have hp:=p.isLt
  have hq:=q.isLt
  have hr:=r.isLt
  have hs:=s.isLt
  apply BitVec.eq_of_toNat_eq
  have e1:(p.setWidth 32 <<< 24).toNat=p.toNat*16777216:=by
    rw [BitVec.toNat_shiftLeft,BitVec.toNat_setWidth,Nat.shiftLeft_eq];omega
  have e2:(q.setWidth 32 <<< 16).toNat=q.toNat*65536:=by
    rw [BitVec.toNat_shiftLeft,BitVec.toNat_setWidth,Nat.shiftLeft_eq];omega
  have e3:(r.setWidth 32 <<< 8).toNat=r.toNat*256:=by
    rw [BitVec.toNat_shiftLeft,BitVec.toNat_setWidth,Nat.shiftLeft_eq];omega
  have e4:(s.setWidth 32).toNat=s.toNat:=by rw [BitVec.toNat_setWidth];omega
  rw [BitVec.toNat_or,BitVec.toNat_or,BitVec.toNat_or,e1,e2,e3,e4]
  rw [nat_join 24 (p.toNat*16777216) (q.toNat*65536) (by omega) (by omega),nat_join 16 (p.toNat*16777216+q.toNat*65536) (r.toNat*256) (by omega) (by omega),
    nat_join 8 (p.toNat*16777216+q.toNat*65536+r.toNat*256) s.toNat (by omega) (by omega)]
  simp
  omega
theorem Qj3 (e f g:BitVec 32):(f &&& e) ||| (g &&& ~~~e)=chs e f g:=by
  unfold chs
  ext i
  simp
  cases e[i] <;> cases f[i] <;> cases g[i] <;> rfl
theorem Qkc (a b c:BitVec 32):((a &&& b) ||| (a &&& c)) ||| (b &&& c)=maj a b c:=by
  unfold maj
  ext i
  simp
  cases a[i] <;> cases b[i] <;> cases c[i] <;> rfl
theorem Qi1 (x:BitVec 32) (n:Nat) (z:Int) (hz:z=(n:Int)) (hn:n<32) (h0:0<n) (w:World) (k:Nat) :
    Calls Tryz.prog 140 #[.int .u32 (u x),.int .i64 z] (w.drewN k) fun e w'=>e=.returned (.int .u32 (u (Zg x n)))∧∃ m,w'=w.drewN m:=by
  rw [hz]
  exact Calls.quiet_of ((QfC x n hn h0 (w.drewN k)).mono fun e w' h=>⟨h.1,1,h.2⟩)
theorem QhU (a b c d:BitVec 32):a+b+c+d=d+c+b+a:=by
  rw [BitVec.add_comm d c,BitVec.add_comm (c+d) b,BitVec.add_comm (b+(c+d)) a,BitVec.add_assoc,BitVec.add_assoc]
def inBlock (id:Nat):Code→Option Code
  | .block i c=>if i=id then some c else inBlock id c
  | .seq a b=>match inBlock id a with
    | some c=>some c
    | none=>inBlock id b
  | .loop c=>inBlock id c
  | .scope c=>inBlock id c
  | .cond _ a b=>match inBlock id a with
    | some c=>some c
    | none=>inBlock id b
  | _=>none
attribute [local go_sem] Qco QfD QfE Qdj Qb9 QaO Qi4 Qg5 Qi6 QgZ
theorem Qfv (s0 s1 s2 s3 s4 s5 s6 s7 s9 A0 E3 A1 Eo Ew Ex Ap AA AL AW B7 Bi Bt BE BP C0 Cb Cm Cp Cq Cr Cs Ct Cu Cv Cw Cx Cy Cz CA CB CC CD CE CF CG CH CI CJ CK CL CM CN CO CP CQ CR CS CT CU CV CW CX CY CZ D0 D1 D2 D3 D4 D5 D6 D7 D8 D9 Da Db Dc Dd De Df Dg Dh Di Dj Dk Dl Dm Dn Do Ey Ez EA EB EC ED EE Dp Dq Dr Ds Dt Du Dv Dw Dx Dy Dz DA DB DC DD DE DF DG DH DI DJ DK DL DM DN DO DP DQ DR DS DT DU DV DW DX DY DZ E0 E1 E2 E4 E5 E6 E7 E8 E9 Ea Eb Ec Ed Ee Ef Eg Eh Ei Ej Ek El Em En Ep Eq Er Es Et Eu Ev A2 A3 A4 A5 A6 A7 A8 A9 Aa Ab Ac Ad Ae Af Ag Ah Ai Aj Ak Al Am An Ao Aq Ar As At Au Av Aw Ax Ay Az AB AC AD AE AF AG AH AI AJ AK AM AN AO AP AQ AR AS AT AU AV AX AY AZ B0 B1 B2 B3 B4 B5 B6 B8 B9 Ba Bb Bc Bd Be Bf Bg Bh Bj Bk Bl Bm Bn Bo Bp Bq Br Bs Bu Bv Bw Bx By Bz BA BB BC BD BF BG BH BI BJ BK BL BM BN BO BQ BR BS BT BU BV BW BX BY BZ C1 C2 C3 C4 C5 C6 C7 C8 C9 Ca Cc Cd Ce Cf Cg Ch Ci Cj Ck Cl Cn Co:Value) (gm M capm j:Nat) (blk:List (BitVec 8)) (w:World) (hM:64*j+64≤M) (hM48:M<140737488353000) (hcap:M≤capm)
    (hm:Hid (∀ i,i<64→w.cell? ⟨gm,64*j+i,none⟩=some (.int .u8 (b8 (blk.getD i 0))))) (hgm:gm<w.heap.size) (Q:Exit→Act→World→Prop)
    (hQ:Hid (∀ (F9 Fk FF FN FO FP FQ FR FT FU FV FW EF EG EH EI EJ EK EL EM EN EO EP EQ ER ES ET EU EV EW EX EY EZ F0 F1 F2 F3 F4 F5 F6 F7 F8 Fa Fb Fc Fd Fe Ff Fg Fh Fi Fj Fl Fm Fn Fo Fp Fq Fr Fs Ft Fu Fv Fw Fx Fy Fz FA FB FC FD FE FG FH FI FJ FK FL FM v:Value) (w':World),w'.ownsRow w.heap.size 163 1 v 64 ((wTo blk 64).map U)→Below w.heap.size w w' →
      Q .normal ⟨#[s0,s1,s2,s3,s4,s5,s6,s7,.slice (some ⟨gm,0,none⟩) M capm,s9,A0,.int .i64 (64*(j:Int)),v,F9,Fk,A1,FF,FN,FO,Ap,AA,AL,AW,B7,Bi,Bt,BE,BP,C0,Cb,Cm,Cp,Cq,Cr,Cs,Ct,Cu,Cv,Cw,Cx,Cy,Cz,CA,CB,CC,CD,CE,CF,CG,CH,CI,CJ,CK,CL,CM,CN,CO,CP,CQ,CR,CS,CT,CU,CV,CW,CX,CY,CZ,D0,D1,D2,D3,D4,D5,D6,D7,D8,D9,Da,Db,Dc,Dd,De,Df,Dg,Dh,Di,Dj,Dk,Dl,Dm,Dn,Do,FP,FQ,FR,FT,FU,FV,FW,EF,EG,EH,EI,EJ,EK,EL,EM,EN,EO,EP,EQ,ER,ES,ET,EU,EV,EW,EX,EY,EZ,F0,F1,F2,F3,F4,F5,F6,F7,F8,Fa,Fb,Fc,Fd,Fe,Ff,Fg,Fh,Fi,Fj,Fl,Fm,Fn,Fo,Fp,Fq,Fr,Fs,Ft,Fu,Fv,Fw,Fx,Fy,Fz,FA,FB,FC,FD,FE,FG,FH,FI,FJ,FK,FL,FM,A2,A3,A4,A5,A6,A7,A8,A9,Aa,Ab,Ac,Ad,Ae,Af,Ag,Ah,Ai,Aj,Ak,Al,Am,An,Ao,Aq,Ar,As,At,Au,Av,Aw,Ax,Ay,Az,AB,AC,AD,AE,AF,AG,AH,AI,AJ,AK,AM,AN,AO,AP,AQ,AR,AS,AT,AU,AV,AX,AY,AZ,B0,B1,B2,B3,B4,B5,B6,B8,B9,Ba,Bb,Bc,Bd,Be,Bf,Bg,Bh,Bj,Bk,Bl,Bm,Bn,Bo,Bp,Bq,Br,Bs,Bu,Bv,Bw,Bx,By,Bz,BA,BB,BC,BD,BF,BG,BH,BI,BJ,BK,BL,BM,BN,BO,BQ,BR,BS,BT,BU,BV,BW,BX,BY,BZ,C1,C2,C3,C4,C5,C6,C7,C8,C9,Ca,Cc,Cd,Ce,Cf,Cg,Ch,Ci,Cj,Ck,Cl,Cn,Co],[]⟩ w')) :
    Code.wp Tryz.prog ((Tryz.f120.body.bind (inBlock 8)).getD .skip) (Exit.inBlock 8 Q) ⟨#[s0,s1,s2,s3,s4,s5,s6,s7,.slice (some ⟨gm,0,none⟩) M capm,s9,A0,.int .i64 (64*(j:Int)),.slice none 0 0,.int .i64 0,E3,A1,Eo,Ew,Ex,Ap,AA,AL,AW,B7,Bi,Bt,BE,BP,C0,Cb,Cm,Cp,Cq,Cr,Cs,Ct,Cu,Cv,Cw,Cx,Cy,Cz,CA,CB,CC,CD,CE,CF,CG,CH,CI,CJ,CK,CL,CM,CN,CO,CP,CQ,CR,CS,CT,CU,CV,CW,CX,CY,CZ,D0,D1,D2,D3,D4,D5,D6,D7,D8,D9,Da,Db,Dc,Dd,De,Df,Dg,Dh,Di,Dj,Dk,Dl,Dm,Dn,Do,Ey,Ez,EA,EB,EC,ED,EE,Dp,Dq,Dr,Ds,Dt,Du,Dv,Dw,Dx,Dy,Dz,DA,DB,DC,DD,DE,DF,DG,DH,DI,DJ,DK,DL,DM,DN,DO,DP,DQ,DR,DS,DT,DU,DV,DW,DX,DY,DZ,E0,E1,E2,E4,E5,E6,E7,E8,E9,Ea,Eb,Ec,Ed,Ee,Ef,Eg,Eh,Ei,Ej,Ek,El,Em,En,Ep,Eq,Er,Es,Et,Eu,Ev,A2,A3,A4,A5,A6,A7,A8,A9,Aa,Ab,Ac,Ad,Ae,Af,Ag,Ah,Ai,Aj,Ak,Al,Am,An,Ao,Aq,Ar,As,At,Au,Av,Aw,Ax,Ay,Az,AB,AC,AD,AE,AF,AG,AH,AI,AJ,AK,AM,AN,AO,AP,AQ,AR,AS,AT,AU,AV,AX,AY,AZ,B0,B1,B2,B3,B4,B5,B6,B8,B9,Ba,Bb,Bc,Bd,Be,Bf,Bg,Bh,Bj,Bk,Bl,Bm,Bn,Bo,Bp,Bq,Br,Bs,Bu,Bv,Bw,Bx,By,Bz,BA,BB,BC,BD,BF,BG,BH,BI,BJ,BK,BL,BM,BN,BO,BQ,BR,BS,BT,BU,BV,BW,BX,BY,BZ,C1,C2,C3,C4,C5,C6,C7,C8,C9,Ca,Cc,Cd,Ce,Cf,Cg,Ch,Ci,Cj,Ck,Cl,Cn,Co],[]⟩ w:=by
  conv=>arg 2;whnf
  conv=>arg 4;dsimp only
  obtain ⟨i32,hi32,hz32,hs32,hb32⟩:=info_parts Qe0
  go_loopw [12,13] (fun v i wr=>∃ t:Nat,t≤64∧i=.int .i64 t∧wr.ownsRow w.heap.size 163 1 v t ((wTo blk t).map U)∧Below w.heap.size w wr) (fun _ i _=>64-(intOf i).toNat)
  case atStart=>exact ⟨0,by omega,rfl,World.ownsRow_nil _ _ _ _,Below.refl _ _⟩
  case round =>
    obtain ⟨t,ht,rfl,hown,hbe⟩:=hrel
    have hszr:=hbe.size
    have HO:=hid hown
    have HB:=hid hbe
    clear hown hbe
    by_cases hlt:t<64
    · have hlt':(t:Int)<64:=by omega
      have hlen:=Jq blk t
      by_cases h16:t<16
      · have h16':(t:Int)<16:=by omega
        have hl4:64*j+4*t+4-(64*j+4*t)=4:=by omega
        have hnx:=hid (show wTo blk (t+1)=wTo blk t ++ [Z2 blk t 4] by rw [Qho];show wTo blk t ++ [QbN blk t (wTo blk t)]=_;unfold QbN;rw [if_pos h16])
        have HC:Hid (∀ r,r<4→wr.cell? ⟨gm,64*j+4*t+r,none⟩=some (.int .u8 (b8 (blk.getD (4*t+r) 0)))):=hid (fun r hr=>by
          rw [HB.out.cell hgm,Nat.add_assoc];exact hm.out (4*t+r) (by omega))
        go_wp2_with fail
        clear hl4
        go_loopw [14,111] (fun xv iv w'=>∃ r:Nat,r≤4∧iv=.int .i64 r∧xv=.int .u32 (u (Z2 blk t r))∧wr=w') (fun _ iv _=>4-(intOf iv).toNat)
        case atStart=>exact ⟨0,by omega,rfl,rfl,rfl⟩
        case round =>
          obtain ⟨r,hr,rfl,rfl,rfl⟩:=hrel
          by_cases hr4:r<4
          · have dr:=HC.out r hr4
            have hstep:=hid (show Z2 blk t (r+1)=Z2 blk t r*256+(blk.getD (4*t+r) 0).setWidth 32 from rfl)
            obtain ⟨c,hc⟩:∃ c,blk.getD (4*t+r) 0=c:=⟨_,rfl⟩
            obtain ⟨f,hf⟩:∃ f,Z2 blk t r=f:=⟨_,rfl⟩
            rw [hc] at dr hstep
            rw [hf] at hstep ⊢
            clear hc hf
            have hrl:(r:Int)<4:=by omega
            go_wp2
            go_roundw
            case rel=>exact ⟨r+1,by omega,by go_num,by rw [hstep.out];rfl,by trivial⟩
            case measure=>simp [intOf];omega
          · obtain rfl:r=4:=by omega
            obtain ⟨x,hx⟩:∃ x,Z2 blk t 4=x:=⟨_,rfl⟩
            rw [hx] at hnx ⊢
            clear hx HC
            go_wp2_with (at_builtin;refine wpList_append_own _ rfl (.tmp 121) (.tmp 123) 180 rfl w.heap.size 163 i32 (.int .u32 0) 1 4 Tryz.underlying180 hi32 hz32 hs32 hb32 rfl (by decide) _ _ _ rfl (HO.out.alloc _) ⟨wr.heap.size,0,none⟩ 1 1 [U x] rfl rfl (Ju _ _ _) (by simp [U,Value.oneCell']) (by unfold maxLen;omega) (by omega) (by simp;omega) ?_;intro v5 w5 hown5 hg5 _;have HO5:=hid hown5;have HB5:=hid (JZ HB.out hszr HO.out _ hg5);clear hown5 hg5)
            go_roundw
            case rel =>
              refine ⟨t+1,by omega,by go_num,?_,HB5.out⟩
              rw [hnx.out,List.map_append];exact HO5.out
            case measure=>simp [intOf];omega
      · have h16':(16:Int)≤(t:Int):=by omega
        obtain ⟨ow,capw,rfl,_,hsw⟩:=QK HO.out
        obtain ⟨gw,rfl,hgw,hglw,hcw⟩:=hsw (by omega)
        have cw:∀ i,i<t→wr.cell? ⟨gw,i,none⟩=some (.int .u32 (u ((wTo blk t).getD i 0))):=fun i hi=>by
          rw [(hcw i hi).1,List.getElem?_map,getD_some (wTo blk t) i 0 (by rw [hlen];exact hi)];rfl
        have hnx:=hid (show wTo blk (t+1)=wTo blk t ++ [sS1 ((wTo blk t).getD (t-2) 0)+(wTo blk t).getD (t-7) 0+sS0 ((wTo blk t).getD (t-15) 0)+(wTo blk t).getD (t-16) 0] by
          show wTo blk t ++ [QbN blk t (wTo blk t)]=_;unfold QbN;rw [if_neg h16])
        have c2:=cw (t-2) (by omega)
        have c7:=cw (t-7) (by omega)
        have c15:=cw (t-15) (by omega)
        have c16:=cw (t-16) (by omega)
        clear cw hcw hsw hm hgm hcap hM
        generalize (wTo blk t).getD (t-2) 0=x2 at *
        generalize (wTo blk t).getD (t-7) 0=x7 at *
        generalize (wTo blk t).getD (t-15) 0=x15 at *
        generalize (wTo blk t).getD (t-16) 0=x16 at *
        have e2:((t:Int)-2).toNat=t-2:=by omega
        have e7:((t:Int)-7).toNat=t-7:=by omega
        have e15:((t:Int)-15).toNat=t-15:=by omega
        have e16:((t:Int)-16).toNat=t-16:=by omega
        have r2:IntKind.i64.wrap ((t:Int)-2)=(t:Int)-2:=by simp [IntKind.wrap,IntKind.bits,IntKind.signed];split <;> omega
        have r7:IntKind.i64.wrap ((t:Int)-7)=(t:Int)-7:=by simp [IntKind.wrap,IntKind.bits,IntKind.signed];split <;> omega
        have r15:IntKind.i64.wrap ((t:Int)-15)=(t:Int)-15:=by simp [IntKind.wrap,IntKind.bits,IntKind.signed];split <;> omega
        have r16:IntKind.i64.wrap ((t:Int)-16)=(t:Int)-16:=by simp [IntKind.wrap,IntKind.bits,IntKind.signed];split <;> omega
        have l2:(t:Int)-2<(t:Int):=by omega
        have l7:(t:Int)-7<(t:Int):=by omega
        have l15:(t:Int)-15<(t:Int):=by omega
        have l16:(t:Int)-16<(t:Int):=by omega
        have i2:(2:Int)≤(t:Int):=by omega
        have i7:(7:Int)≤(t:Int):=by omega
        have i15:(15:Int)≤(t:Int):=by omega
        go_wp2_with fail
        refine Jz (by kernel_rfl) (by kernel_rfl) ?_
        repeat still_step
        refine wpStill_nil ?_
        go_wp2_with fail
        obtain ⟨wd,hwd⟩:∃ wd,wr.drew=wd:=⟨_,rfl⟩
        have HOD:Hid (wd.ownsRow w.heap.size 163 1 (.slice (some ⟨gw,0,none⟩) t capw) t ((wTo blk t).map U)):=hid (by rw [← hwd];exact HO.out.drew)
        have HBD:Hid (Below w.heap.size w wd):=hid (by rw [← hwd];exact HB.out.drew)
        have hszd:w.heap.size≤wd.heap.size:=by rw [← hwd];exact hszr
        replace c2:wd.cell? ⟨gw,t-2,none⟩=some (.int .u32 (u x2)):=by rw [← hwd];exact c2
        replace c7:wd.cell? ⟨gw,t-7,none⟩=some (.int .u32 (u x7)):=by rw [← hwd];exact c7
        replace c15:wd.cell? ⟨gw,t-15,none⟩=some (.int .u32 (u x15)):=by rw [← hwd];exact c15
        replace c16:wd.cell? ⟨gw,t-16,none⟩=some (.int .u32 (u x16)):=by rw [← hwd];exact c16
        rw [hwd]
        clear hwd HO HB hszr hglw hgw
        refine Qfq 30 (.tmp 12) (fun _ _=>rfl) rfl (by kernel_rfl) (by kernel_rfl) ?_
        simp only [List.take_succ_cons,List.take_zero]
        repeat (quiet_step (exact Qi1 _ _ _ rfl (by decide) (by decide) _ _))
        refine wpQuiet_nil ?_
        intro k
        obtain ⟨x,hx⟩:∃ x,x16+(Zg x15 7 ^^^ Zg x15 18 ^^^ x15 >>> 3)+x7+(Zg x2 17 ^^^ Zg x2 19 ^^^ x2 >>> 10)=x:=⟨_,rfl⟩
        obtain ⟨wk,hwk⟩:∃ wk,wd.drewN k=wk:=⟨_,rfl⟩
        have HOK:Hid (wk.ownsRow w.heap.size 163 1 (.slice (some ⟨gw,0,none⟩) t capw) t ((wTo blk t).map U)):=hid (by rw [← hwk];exact HOD.out)
        have HBK:Hid (Below w.heap.size w wk):=hid (by rw [← hwk];exact below_drewN HBD.out k)
        have hszk:w.heap.size≤wk.heap.size:=by rw [← hwk];exact hszd
        rw [hwk,hx]
        clear hwk HOD HBD hszd c2 c7 c15 c16
        have HX:=hid hx
        clear hx
        simp only [List.drop_succ_cons,List.drop_zero]
        go_wp2_with (at_builtin;refine wpList_append_own _ rfl (.tmp 135) (.tmp 165) 180 rfl w.heap.size 163 i32 (.int .u32 0) 1 4 Tryz.underlying180 hi32 hz32 hs32 hb32 rfl (by decide) _ _ _ rfl (HOK.out.alloc _) ⟨wk.heap.size,0,none⟩ 1 1 [U x] rfl rfl (Ju _ _ _) (by simp [U,Value.oneCell']) (by unfold maxLen;omega) (by omega) (by simp;omega) ?_;intro v5 w5 hown5 hg5 _;have HO5:=hid hown5;have HB5:=hid (JZ HBK.out hszk HOK.out _ hg5);clear hown5 hg5)
        refine ⟨⟨t+1,by omega,by go_num,?_,HB5.out⟩,?_⟩
        · rw [hnx.out,QhU,List.map_append]
          have h:=HO5.out
          rw [← HX.out] at h
          exact h
        · simp [intOf];omega
    · obtain rfl:t=64:=by omega
      go_wp2_with fail
      apply hQ.out
      · exact HO.out
      · exact HB.out
attribute [local go_sem] Qco QfD QfE Qdj Qb9 QaO
theorem Qkq (x:BitVec 32) (n:Nat) (z:Int) (hz:z=(n:Int)) (hn:n<32) (h0:0<n) (w:World) :
    Calls Tryz.prog 140 #[.int .u32 (u x),.int .i64 z] w fun e w'=>e=.returned (.int .u32 (u (Zg x n)))∧w'=w.drew:=by
  rw [hz];exact QfC x n hn h0 w
theorem QeB (s0 s1 s2 s3 s5 s6 s7 s8 s9 A0 Ab Aw AH AS B3 Be Bp Eu Ev Ew Ex Ck Cl Cm Cn Co Cp Cq Cr Cs Ct Cu Cv Cw Cx Cy Cz CA CB CC CD CE CF CG CH CI CJ CK CL CM CN CO CP CQ CR CS CT CU CV CW CX CY CZ D0 D1 D2 D3 D4 D5 D6 D7 D8 D9 Da Db Dc Dd De Df Dg Dh Di Dj Dk Dl Dm Dn Do Dp A1 A2 A3 A4 A5 A6 A7 A8 A9 Aa Ac Ad Ae Af Ag Ah Ai Aj Ak Al Am An Ao Ap Aq Ar As At Au Av Ax Ay Az AA AB AC AD AE AF AG AI AJ AK AL AM AN AO AP AQ AR AT AU AV AW AX AY AZ B0 B1 B2 B4 B5 B6 B7 B8 B9 Ba Bb Bc Bd Bf Bg Bh Bi Bj Bk Bl Bm Bn Bo Bq Br Bs Bt Bu Bv Bw Bx By Bz BA Dq Dr Ds Dt Du Dv Dw Dx Dy Dz DA DB DC DD DE DF DG DH DI DJ DK DL DM DN DO DP DQ DR DS DT DU DV DW DX DY DZ E0 E1 E2 E3 E4 E5 E6 E7 E8 E9 Ea Eb Ec Ed Ee Ef Eg Eh Ei Ej Ek El Em En Eo Ep Eq Er Es Et BB BC BD BE BF BG BH BI BJ BK BL BM BN BO BP BQ BR BS BT BU BV BW BX BY BZ C0 C1 C2 C3 C4 C5 C6 C7 C8 C9 Ca Cb Cc Cd Ce Cf Cg Ch Ci Cj:Value) (gk capk gw capw:Nat) (W:List (BitVec 32)) (s:Oct) (w:World)
    (hk:Hid (∀ t,t<64→w.cell? ⟨gk,t,none⟩=some (.int .u32 (u (Qbi.getD t 0))))) (hw:Hid (∀ t,t<64→w.cell? ⟨gw,t,none⟩=some (.int .u32 (u (W.getD t 0))))) (Q:Exit→Act→World→Prop)
    (hQ:Hid (∀ (FC FD FE FF FG Ey Ez EA EB EC ED EE EF EG EH EI EJ EK EL EM EN EO EP EQ ER ES ET EU EV EW EX EY EZ F0 F1 F2 F3 F4 F5 F6 F7 F8 F9 Fa Fb Fc Fd Fe Ff Fg Fh Fi Fj Fk Fl Fm Fn Fo Fp Fq Fr Fs Ft Fu Fv Fw Fx Fy Fz FA FB:Value) (n:Nat),Q .normal ⟨#[s0,s1,s2,s3,.slice (some ⟨gk,0,none⟩) 64 capk,s5,s6,s7,s8,s9,A0,Ab,.slice (some ⟨gw,0,none⟩) 64 capw,Aw,AH,AS,B3,Be,Bp,.int .u32 (u (rTo W s 64).a),.int .u32 (u (rTo W s 64).b),.int .u32 (u (rTo W s 64).c),.int .u32 (u (rTo W s 64).d),.int .u32 (u (rTo W s 64).e),.int .u32 (u (rTo W s 64).f),.int .u32 (u (rTo W s 64).g),.int .u32 (u (rTo W s 64).h),FC,FD,FE,FF,FG,Ck,Cl,Cm,Cn,Co,Cp,Cq,Cr,Cs,Ct,Cu,Cv,Cw,Cx,Cy,Cz,CA,CB,CC,CD,CE,CF,CG,CH,CI,CJ,CK,CL,CM,CN,CO,CP,CQ,CR,CS,CT,CU,CV,CW,CX,CY,CZ,D0,D1,D2,D3,D4,D5,D6,D7,D8,D9,Da,Db,Dc,Dd,De,Df,Dg,Dh,Di,Dj,Dk,Dl,Dm,Dn,Do,Dp,A1,A2,A3,A4,A5,A6,A7,A8,A9,Aa,Ac,Ad,Ae,Af,Ag,Ah,Ai,Aj,Ak,Al,Am,An,Ao,Ap,Aq,Ar,As,At,Au,Av,Ax,Ay,Az,AA,AB,AC,AD,AE,AF,AG,AI,AJ,AK,AL,AM,AN,AO,AP,AQ,AR,AT,AU,AV,AW,AX,AY,AZ,B0,B1,B2,B4,B5,B6,B7,B8,B9,Ba,Bb,Bc,Bd,Bf,Bg,Bh,Bi,Bj,Bk,Bl,Bm,Bn,Bo,Bq,Br,Bs,Bt,Bu,Bv,Bw,Bx,By,Bz,BA,Ey,Ez,EA,EB,EC,ED,EE,EF,EG,EH,EI,EJ,EK,EL,EM,EN,EO,EP,EQ,ER,ES,ET,EU,EV,EW,EX,EY,EZ,F0,F1,F2,F3,F4,F5,F6,F7,F8,F9,Fa,Fb,Fc,Fd,Fe,Ff,Fg,Fh,Fi,Fj,Fk,Fl,Fm,Fn,Fo,Fp,Fq,Fr,Fs,Ft,Fu,Fv,Fw,Fx,Fy,Fz,FA,FB,BB,BC,BD,BE,BF,BG,BH,BI,BJ,BK,BL,BM,BN,BO,BP,BQ,BR,BS,BT,BU,BV,BW,BX,BY,BZ,C0,C1,C2,C3,C4,C5,C6,C7,C8,C9,Ca,Cb,Cc,Cd,Ce,Cf,Cg,Ch,Ci,Cj],[]⟩ (w.drewN n))) :
    Code.wp Tryz.prog ((Tryz.f120.body.bind (inBlock 12)).getD .skip) (Exit.inBlock 12 Q) ⟨#[s0,s1,s2,s3,.slice (some ⟨gk,0,none⟩) 64 capk,s5,s6,s7,s8,s9,A0,Ab,.slice (some ⟨gw,0,none⟩) 64 capw,Aw,AH,AS,B3,Be,Bp,.int .u32 (u s.a),.int .u32 (u s.b),.int .u32 (u s.c),.int .u32 (u s.d),.int .u32 (u s.e),.int .u32 (u s.f),.int .u32 (u s.g),.int .u32 (u s.h),.int .i64 0,Eu,Ev,Ew,Ex,Ck,Cl,Cm,Cn,Co,Cp,Cq,Cr,Cs,Ct,Cu,Cv,Cw,Cx,Cy,Cz,CA,CB,CC,CD,CE,CF,CG,CH,CI,CJ,CK,CL,CM,CN,CO,CP,CQ,CR,CS,CT,CU,CV,CW,CX,CY,CZ,D0,D1,D2,D3,D4,D5,D6,D7,D8,D9,Da,Db,Dc,Dd,De,Df,Dg,Dh,Di,Dj,Dk,Dl,Dm,Dn,Do,Dp,A1,A2,A3,A4,A5,A6,A7,A8,A9,Aa,Ac,Ad,Ae,Af,Ag,Ah,Ai,Aj,Ak,Al,Am,An,Ao,Ap,Aq,Ar,As,At,Au,Av,Ax,Ay,Az,AA,AB,AC,AD,AE,AF,AG,AI,AJ,AK,AL,AM,AN,AO,AP,AQ,AR,AT,AU,AV,AW,AX,AY,AZ,B0,B1,B2,B4,B5,B6,B7,B8,B9,Ba,Bb,Bc,Bd,Bf,Bg,Bh,Bi,Bj,Bk,Bl,Bm,Bn,Bo,Bq,Br,Bs,Bt,Bu,Bv,Bw,Bx,By,Bz,BA,Dq,Dr,Ds,Dt,Du,Dv,Dw,Dx,Dy,Dz,DA,DB,DC,DD,DE,DF,DG,DH,DI,DJ,DK,DL,DM,DN,DO,DP,DQ,DR,DS,DT,DU,DV,DW,DX,DY,DZ,E0,E1,E2,E3,E4,E5,E6,E7,E8,E9,Ea,Eb,Ec,Ed,Ee,Ef,Eg,Eh,Ei,Ej,Ek,El,Em,En,Eo,Ep,Eq,Er,Es,Et,BB,BC,BD,BE,BF,BG,BH,BI,BJ,BK,BL,BM,BN,BO,BP,BQ,BR,BS,BT,BU,BV,BW,BX,BY,BZ,C0,C1,C2,C3,C4,C5,C6,C7,C8,C9,Ca,Cb,Cc,Cd,Ce,Cf,Cg,Ch,Ci,Cj],[]⟩ w:=by
  conv=>arg 2;whnf
  conv=>arg 4;dsimp only
  go_loopw [19,20,21,22,23,24,25,26,27] (fun va vb vc vd ve vf vg vh i wr=>∃ (t n:Nat) (r:Oct),t≤64∧i=.int .i64 t∧Hid (r=rTo W s t) ∧
      va=.int .u32 (u r.a)∧vb=.int .u32 (u r.b)∧vc=.int .u32 (u r.c)∧vd=.int .u32 (u r.d)∧ve=.int .u32 (u r.e)∧vf=.int .u32 (u r.f)∧vg=.int .u32 (u r.g)∧vh=.int .u32 (u r.h)∧Hid (wr=w.drewN n))
    (fun _ _ _ _ _ _ _ _ i _=>64-(intOf i).toNat)
  case atStart=>exact ⟨0,0,s,by omega,rfl,hid rfl,rfl,rfl,rfl,rfl,rfl,rfl,rfl,rfl,hid rfl⟩
  case round =>
    obtain ⟨t,n,r,ht,rfl,HR,rfl,rfl,rfl,rfl,rfl,rfl,rfl,rfl,HWR⟩:=hrel
    by_cases hlt:t<64
    · have ck:wr.cell? ⟨gk,t,none⟩=some (.int .u32 (u (Qbi.getD t 0))):=by rw [HWR.out];exact hk.out t hlt
      have cw:wr.cell? ⟨gw,t,none⟩=some (.int .u32 (u (W.getD t 0))):=by rw [HWR.out];exact hw.out t hlt
      have hlt':(t:Int)<64:=by omega
      obtain ⟨kt,hkt⟩:∃ kt,Qbi.getD t 0=kt:=⟨_,rfl⟩
      obtain ⟨wt,hwt⟩:∃ wt,W.getD t 0=wt:=⟨_,rfl⟩
      rw [hkt] at ck
      rw [hwt] at cw
      have HKT:=hid hkt
      have HWT:=hid hwt
      clear hkt hwt
      go_wp2_with fail
      rw [Qj3,Qkc]
      go_quiet (exact Qi1 _ _ _ rfl (by decide) (by decide) _ _)
      go_wp2_with (go_at_call 140;refine (Qkq _ _ _ rfl (by decide) (by decide) _).mono ?_;rintro e w' ⟨rfl,rfl⟩)
      go_roundw
      case rel =>
        refine ⟨t+1,n+nq+1+1+1,step kt wt r,by omega,by go_num,hid ?_,rfl,rfl,rfl,rfl,rfl,rfl,rfl,rfl,hid ?_⟩
        · rw [HR.out,← HKT.out,← HWT.out];rfl
        · rw [HWR.out];simp [World.drewN,Nat.add_assoc]
      case measure=>simp [intOf];omega
    · obtain rfl:t=64:=by omega
      obtain rfl:=HR.out
      obtain rfl:=HWR.out
      clear hk hw
      go_wp2_with fail
      apply hQ.out
attribute [local go_sem] Qdj Qb9
def Qbo (w:World) (g:Nat) (s:Oct):Prop:=∀ i,i<8→w.cell? ⟨g,i,none⟩=some (.int .u32 (u (s.list.getD i 0)))∧w.frozen? ⟨g,i,none⟩=false
theorem Qjx (s r:Oct) (i:Nat) (h:i<8):(s.plus r).list.getD i 0=s.list.getD i 0+r.list.getD i 0:=by
  match i,h with
  | 0,_ | 1,_ | 2,_ | 3,_ | 4,_ | 5,_ | 6,_ | 7,_=>rfl
theorem Qgh (s0 s1 s2 s3 s4 s6 s7 s8 s9 A0 Ab Am Ax AI AT B4 Bf Bq BB BM BX C8 Cj Cu CF CQ CW CX D6 Dh Dk ED EE Dl Dm Dn Do Dp Dq Dr Ds Dt Du Dv Dw Dx Dy Dz DA DB DC DD DE DF DG DH DI DJ DK DL DM DN DO DP DQ DR DS DT DU DV DW DX DY DZ E0 E1 E2 E3 E4 E5 E6 E7 E8 E9 Ea Eb Ec Ed Ee Ef Eg Eh Ei Ej Ek El Em En Eo A1 A2 A3 A4 A5 A6 A7 A8 A9 Aa Ac Ad Ae Af Ag Ah Ai Aj Ak Al An Ao Ap Aq Ar As At Au Av Aw Ay Az AA AB AC AD AE AF AG AH AJ AK AL AM AN AO AP AQ AR AS AU AV AW AX AY AZ B0 B1 B2 B3 B5 B6 B7 B8 B9 Ba Bb Bc Bd Be Bg Bh Bi Bj Bk Bl Bm Bn Bo Bp Br Bs Bt Bu Bv Bw Bx By Bz BA BC BD BE BF BG BH BI BJ BK BL BN BO BP BQ BR BS BT BU BV BW BY BZ C0 C1 C2 C3 C4 C5 C6 C7 C9 Ca Cb Cc Cd Ce Cf Cg Ch Ci Ck Cl Cm Cn Co Cp Cq Cr Cs Ct Cv Cw Cx Cy Cz CA CB CC CD CE CG CH CI CJ CK CL CM CN CO CP CR CS CT CU CV Ep Eq Er Es Et Eu Ev Ew Ex Ey Ez EA EB EC CY CZ D0 D1 D2 D3 D4 D5 D7 D8 D9 Da Db Dc Dd De Df Dg Di Dj:Value) (gh caph gl:Nat) (s r:Oct) (w:World) (hne:gl≠gh) (hgl:gl<w.heap.size)
    (hh:Hid (Qbo w gh s)) (hr:Hid (∀ i,i<8→w.cell? ⟨gl,i,none⟩=some (.int .u32 (u (r.list.getD i 0))))) (Q:Exit→Act→World→Prop)
    (hQ:Hid (∀ (EU EV EF EG EH EI EJ EK EL EM EN EO EP EQ ER ES ET:Value) (w':World),Qbo w' gh (s.plus r)→w.grownBy w' (some gh)→Q .normal ⟨#[s0,s1,s2,s3,s4,.slice (some ⟨gh,0,none⟩) 8 caph,s6,s7,s8,s9,A0,Ab,Am,Ax,AI,AT,B4,Bf,Bq,BB,BM,BX,C8,Cj,Cu,CF,CQ,CW,CX,D6,Dh,Dk,EU,EV,Dl,Dm,Dn,Do,Dp,Dq,Dr,Ds,Dt,Du,Dv,Dw,Dx,Dy,Dz,DA,DB,DC,DD,DE,DF,DG,DH,DI,DJ,DK,DL,DM,DN,DO,DP,DQ,DR,DS,DT,DU,DV,DW,DX,DY,DZ,E0,E1,E2,E3,E4,E5,E6,E7,E8,E9,Ea,Eb,Ec,Ed,Ee,Ef,Eg,Eh,Ei,Ej,Ek,El,Em,En,Eo,A1,A2,A3,A4,A5,A6,A7,A8,A9,Aa,Ac,Ad,Ae,Af,Ag,Ah,Ai,Aj,Ak,Al,An,Ao,Ap,Aq,Ar,As,At,Au,Av,Aw,Ay,Az,AA,AB,AC,AD,AE,AF,AG,AH,AJ,AK,AL,AM,AN,AO,AP,AQ,AR,AS,AU,AV,AW,AX,AY,AZ,B0,B1,B2,B3,B5,B6,B7,B8,B9,Ba,Bb,Bc,Bd,Be,Bg,Bh,Bi,Bj,Bk,Bl,Bm,Bn,Bo,Bp,Br,Bs,Bt,Bu,Bv,Bw,Bx,By,Bz,BA,BC,BD,BE,BF,BG,BH,BI,BJ,BK,BL,BN,BO,BP,BQ,BR,BS,BT,BU,BV,BW,BY,BZ,C0,C1,C2,C3,C4,C5,C6,C7,C9,Ca,Cb,Cc,Cd,Ce,Cf,Cg,Ch,Ci,Ck,Cl,Cm,Cn,Co,Cp,Cq,Cr,Cs,Ct,Cv,Cw,Cx,Cy,Cz,CA,CB,CC,CD,CE,CG,CH,CI,CJ,CK,CL,CM,CN,CO,CP,CR,CS,CT,CU,CV,.slice (some ⟨gl,0,none⟩) 8 8,.int .i64 8,EF,EG,EH,EI,EJ,EK,EL,EM,EN,EO,EP,EQ,ER,ES,ET,CY,CZ,D0,D1,D2,D3,D4,D5,D7,D8,D9,Da,Db,Dc,Dd,De,Df,Dg,Di,Dj],[]⟩ w')) :
    Code.wp Tryz.prog ((Tryz.f120.body.bind (inBlock 14)).getD .skip) (Exit.inBlock 14 Q) ⟨#[s0,s1,s2,s3,s4,.slice (some ⟨gh,0,none⟩) 8 caph,s6,s7,s8,s9,A0,Ab,Am,Ax,AI,AT,B4,Bf,Bq,BB,BM,BX,C8,Cj,Cu,CF,CQ,CW,CX,D6,Dh,Dk,ED,EE,Dl,Dm,Dn,Do,Dp,Dq,Dr,Ds,Dt,Du,Dv,Dw,Dx,Dy,Dz,DA,DB,DC,DD,DE,DF,DG,DH,DI,DJ,DK,DL,DM,DN,DO,DP,DQ,DR,DS,DT,DU,DV,DW,DX,DY,DZ,E0,E1,E2,E3,E4,E5,E6,E7,E8,E9,Ea,Eb,Ec,Ed,Ee,Ef,Eg,Eh,Ei,Ej,Ek,El,Em,En,Eo,A1,A2,A3,A4,A5,A6,A7,A8,A9,Aa,Ac,Ad,Ae,Af,Ag,Ah,Ai,Aj,Ak,Al,An,Ao,Ap,Aq,Ar,As,At,Au,Av,Aw,Ay,Az,AA,AB,AC,AD,AE,AF,AG,AH,AJ,AK,AL,AM,AN,AO,AP,AQ,AR,AS,AU,AV,AW,AX,AY,AZ,B0,B1,B2,B3,B5,B6,B7,B8,B9,Ba,Bb,Bc,Bd,Be,Bg,Bh,Bi,Bj,Bk,Bl,Bm,Bn,Bo,Bp,Br,Bs,Bt,Bu,Bv,Bw,Bx,By,Bz,BA,BC,BD,BE,BF,BG,BH,BI,BJ,BK,BL,BN,BO,BP,BQ,BR,BS,BT,BU,BV,BW,BY,BZ,C0,C1,C2,C3,C4,C5,C6,C7,C9,Ca,Cb,Cc,Cd,Ce,Cf,Cg,Ch,Ci,Ck,Cl,Cm,Cn,Co,Cp,Cq,Cr,Cs,Ct,Cv,Cw,Cx,Cy,Cz,CA,CB,CC,CD,CE,CG,CH,CI,CJ,CK,CL,CM,CN,CO,CP,CR,CS,CT,CU,CV,.slice (some ⟨gl,0,none⟩) 8 8,.int .i64 8,.int .i64 0,Ep,Eq,Er,Es,Et,Eu,Ev,Ew,Ex,Ey,Ez,EA,EB,EC,CY,CZ,D0,D1,D2,D3,D4,D5,D7,D8,D9,Da,Db,Dc,Dd,De,Df,Dg,Di,Dj],[]⟩ w:=by
  conv=>arg 2;whnf
  conv=>arg 4;dsimp only
  go_loopw [267] (fun i wr=>∃ k:Nat,k≤8∧i=.int .i64 k∧(∀ i,i<8→wr.cell? ⟨gh,i,none⟩=some (.int .u32 (u (if i<k then s.list.getD i 0+r.list.getD i 0 else s.list.getD i 0)))∧wr.frozen? ⟨gh,i,none⟩=false)∧w.grownBy wr (some gh)) (fun i _=>8-(intOf i).toNat)
  case atStart=>exact ⟨0,by omega,rfl,fun i hi=>by simpa using hh.out i hi,Yc _ _⟩
  case round =>
    obtain ⟨k,hk,rfl,hcell,hgr⟩:=hrel
    by_cases hlt:k<8
    · have hlt':(k:Int)<8:=by omega
      obtain ⟨c1,f1⟩:=hcell k hlt
      rw [if_neg (Nat.lt_irrefl k)] at c1
      have c2:wr.cell? ⟨gl,k,none⟩=some (.int .u32 (u (r.list.getD k 0))):=by
        rw [← hr.out k hlt]
        exact World.cell?_of_block (hgr.block gl hgl (by simp;omega))
      have HC:=hid hcell
      have HG:=hid hgr
      clear hcell hgr
      obtain ⟨x,hx⟩:∃ x,s.list.getD k 0=x:=⟨_,rfl⟩
      obtain ⟨y,hy⟩:∃ y,r.list.getD k 0=y:=⟨_,rfl⟩
      rw [hx] at c1
      rw [hy] at c2
      have HX:=hid hx
      have HY:=hid hy
      clear hx hy
      go_wp2_with fail
      go_roundw
      case rel =>
        refine ⟨k+1,by omega,by go_num,fun i hi=>?_,Qj HG.out (QX _ _ _ _)⟩
        refine ⟨?_,by rw [World.frozen?_setCell];exact (HC.out i hi).2⟩
        by_cases e:i=k
        · subst e
          rw [World.cell?_setCell_same _ _ _ c1,if_pos (by omega),HX.out,HY.out]
        · rw [World.cell?_setCell_other _ _ _ _ (by intro h;cases h;exact e rfl),(HC.out i hi).1]
          by_cases q:i<k
          · rw [if_pos q,if_pos (by omega)]
          · rw [if_neg q,if_neg (by omega)]
      case measure=>simp [intOf];omega
    · obtain rfl:k=8:=by omega
      have HC:Hid (Qbo wr gh (s.plus r)):=hid (fun i hi=>by
        rw [Qjx s r i hi]
        have h:=hcell i hi
        rw [if_pos hi] at h
        exact h)
      have HG:=hid hgr
      clear hcell hgr hr hh
      go_wp2_with fail
      apply hQ.out
      · exact HC.out
      · exact HG.out
theorem Qf9 (s0 s1 s2 s3 s6 s7 s9 A0 Ed Eo Ez EK EV F6 Fh Fs FD FO G0 Gb Gm Gx GI GT I4 I7 I8 I9 Ia Ib Al Am An Ao Ap Aq Ar As At Au Av Aw Ax Ay Az AA AB AC AD AE AF AG AH AI AJ AK AL AM AN AO AP AQ AR AS AT AU AV AW AX AY AZ B0 B1 B2 B3 B4 B5 B6 B7 B8 B9 Ba Bb Ic Id Ie If Ig Ih Ii Ij Ik Il Im In Io DT DU DV DW DX DY DZ E0 E1 E2 E3 E4 E5 E6 E7 E8 E9 Ea Eb Ec Ee Ef Eg Eh Ei Ej Ek El Em En Ep Eq Er Es Et Eu Ev Ew Ex Ey EA EB EC ED EE EF EG EH EI EJ EL EM EN EO EP EQ ER ES ET EU EW EX EY EZ F0 F1 F2 F3 F4 F5 F7 F8 F9 Fa Fb Fc Fd Fe Ff Fg Fi Fj Fk Fl Fm Fn Fo Fp Fq Fr Ft Fu Fv Fw Fx Fy Fz FA FB FC FE FF FG FH FI FJ FK FL FM FN FP FQ FR FT FU FV FW FX FY FZ G1 G2 G3 G4 G5 G6 G7 G8 G9 Ga Gc Gd Ge Gf Gg Gh Gi Gj Gk Gl Gn Go Gp Gq Gr Gs Gt Gu Gv Gw Gy Gz GA GB GC GD GE GF GG GH GJ GK GL GM GN GO GP GQ GR GS GU GV GW GX GY GZ I0 I1 I2 I3 I5 I6 A1 A2 A3 A4 A5 A6 A7 A8 A9 Aa Ab Ac Ad Ae Af Ag Ah Ai Aj Ak:Value) (gk capk gh caph gm M capm nb:Nat) (P:List (BitVec 8)) (so:Oct) (w:World) (hkh:gk≠gh) (hmh:gm≠gh) (hgk:gk<w.heap.size) (hgh:gh<w.heap.size) (hgm:gm<w.heap.size)
    (hM:M=64*nb) (hM48:M<140737488353000) (hcap:M≤capm) (hm:Hid (∀ i,i<M→w.cell? ⟨gm,i,none⟩=some (.int .u8 (b8 (P.getD i 0))))) (hk:Hid (∀ t,t<64→w.cell? ⟨gk,t,none⟩=some (.int .u32 (u (Qbi.getD t 0)))))
    (hh:Hid (Qbo w gh so)) (Q:Exit→Act→World→Prop)
    (hQ:Hid (∀ (Ip Iq BG BR Ir Cc Ck Cl IQ IS IT IU IV IW IX K1 Dt DE DH DI DJ DK DL K9 Ka Kb Kc Kd Ke DM DN DO DP DQ DR DS Bc Bd Be Bf Bg Bh Bi Bj Bk Bl Bm Bn Bo Bp Bq Br Bs Bt Bu Bv Bw Bx By Bz BA BB BC BD BE BF BH BI BJ BK BL BM BN BO BP BQ BS BT BU BV BW BX BY BZ C0 C1 C2 C3 C4 C5 C6 C7 C8 C9 Ca Cb Cd Ce Cf Cg Ch Ci Cj Is It Iu Iv Iw Ix Iy Iz IA IB IC ID IE IF IG IH II IJ IK IL IM IN IP IR Cm Cn Co Cp Cq Cr Cs Ct Cu Cv Cw Cx Cy Cz CA CB CC CD CE CF CG CH CI CJ CK CL CM CN CO CP CQ CR CS CT CU CV CW CX CY CZ D0 D1 D2 D3 D4 D5 D6 D7 D8 D9 Da Db Dc Dd De Df Dg Dh Di Dj Dk Dl Dm Dn Do Dp IY IZ K0 K2 K3 K4 K5 K6 K7 K8 Dq Dr Ds Du Dv Dw Dx Dy Dz DA DB DC DD DF DG:Value) (w':World),Qbo w' gh (Qu nb so P)→w.grownBy w' (some gh)→Q .normal ⟨#[s0,s1,s2,s3,.slice (some ⟨gk,0,none⟩) 64 capk,.slice (some ⟨gh,0,none⟩) 8 caph,s6,s7,.slice (some ⟨gm,0,none⟩) M capm,s9,A0,Ip,Iq,BG,BR,Ir,Cc,Ck,Cl,IQ,IS,IT,IU,IV,IW,IX,K1,Dt,DE,DH,DI,DJ,DK,DL,Al,Am,An,Ao,Ap,Aq,Ar,As,At,Au,Av,Aw,Ax,Ay,Az,AA,AB,AC,AD,AE,AF,AG,AH,AI,AJ,AK,AL,AM,AN,AO,AP,AQ,AR,AS,AT,AU,AV,AW,AX,AY,AZ,B0,B1,B2,B3,B4,B5,B6,B7,B8,B9,Ba,Bb,K9,Ka,Kb,Kc,Kd,Ke,DM,DN,DO,DP,DQ,DR,DS,Bc,Bd,Be,Bf,Bg,Bh,Bi,Bj,Bk,Bl,Bm,Bn,Bo,Bp,Bq,Br,Bs,Bt,Bu,Bv,Bw,Bx,By,Bz,BA,BB,BC,BD,BE,BF,BH,BI,BJ,BK,BL,BM,BN,BO,BP,BQ,BS,BT,BU,BV,BW,BX,BY,BZ,C0,C1,C2,C3,C4,C5,C6,C7,C8,C9,Ca,Cb,Cd,Ce,Cf,Cg,Ch,Ci,Cj,Is,It,Iu,Iv,Iw,Ix,Iy,Iz,IA,IB,IC,ID,IE,IF,IG,IH,II,IJ,IK,IL,IM,IN,IP,IR,Cm,Cn,Co,Cp,Cq,Cr,Cs,Ct,Cu,Cv,Cw,Cx,Cy,Cz,CA,CB,CC,CD,CE,CF,CG,CH,CI,CJ,CK,CL,CM,CN,CO,CP,CQ,CR,CS,CT,CU,CV,CW,CX,CY,CZ,D0,D1,D2,D3,D4,D5,D6,D7,D8,D9,Da,Db,Dc,Dd,De,Df,Dg,Dh,Di,Dj,Dk,Dl,Dm,Dn,Do,Dp,IY,IZ,K0,K2,K3,K4,K5,K6,K7,K8,Dq,Dr,Ds,Du,Dv,Dw,Dx,Dy,Dz,DA,DB,DC,DD,DF,DG,A1,A2,A3,A4,A5,A6,A7,A8,A9,Aa,Ab,Ac,Ad,Ae,Af,Ag,Ah,Ai,Aj,Ak],[]⟩ w')) :
    Code.wp Tryz.prog ((Tryz.f120.body.bind (inBlock 6)).getD .skip) (Exit.inBlock 6 Q) ⟨#[s0,s1,s2,s3,.slice (some ⟨gk,0,none⟩) 64 capk,.slice (some ⟨gh,0,none⟩) 8 caph,s6,s7,.slice (some ⟨gm,0,none⟩) M capm,s9,A0,.int .i64 0,Ed,Eo,Ez,EK,EV,F6,Fh,Fs,FD,FO,G0,Gb,Gm,Gx,GI,GT,I4,I7,I8,I9,Ia,Ib,Al,Am,An,Ao,Ap,Aq,Ar,As,At,Au,Av,Aw,Ax,Ay,Az,AA,AB,AC,AD,AE,AF,AG,AH,AI,AJ,AK,AL,AM,AN,AO,AP,AQ,AR,AS,AT,AU,AV,AW,AX,AY,AZ,B0,B1,B2,B3,B4,B5,B6,B7,B8,B9,Ba,Bb,Ic,Id,Ie,If,Ig,Ih,Ii,Ij,Ik,Il,Im,In,Io,DT,DU,DV,DW,DX,DY,DZ,E0,E1,E2,E3,E4,E5,E6,E7,E8,E9,Ea,Eb,Ec,Ee,Ef,Eg,Eh,Ei,Ej,Ek,El,Em,En,Ep,Eq,Er,Es,Et,Eu,Ev,Ew,Ex,Ey,EA,EB,EC,ED,EE,EF,EG,EH,EI,EJ,EL,EM,EN,EO,EP,EQ,ER,ES,ET,EU,EW,EX,EY,EZ,F0,F1,F2,F3,F4,F5,F7,F8,F9,Fa,Fb,Fc,Fd,Fe,Ff,Fg,Fi,Fj,Fk,Fl,Fm,Fn,Fo,Fp,Fq,Fr,Ft,Fu,Fv,Fw,Fx,Fy,Fz,FA,FB,FC,FE,FF,FG,FH,FI,FJ,FK,FL,FM,FN,FP,FQ,FR,FT,FU,FV,FW,FX,FY,FZ,G1,G2,G3,G4,G5,G6,G7,G8,G9,Ga,Gc,Gd,Ge,Gf,Gg,Gh,Gi,Gj,Gk,Gl,Gn,Go,Gp,Gq,Gr,Gs,Gt,Gu,Gv,Gw,Gy,Gz,GA,GB,GC,GD,GE,GF,GG,GH,GJ,GK,GL,GM,GN,GO,GP,GQ,GR,GS,GU,GV,GW,GX,GY,GZ,I0,I1,I2,I3,I5,I6,A1,A2,A3,A4,A5,A6,A7,A8,A9,Aa,Ab,Ac,Ad,Ae,Af,Ag,Ah,Ai,Aj,Ak],[]⟩ w:=by
  conv=>arg 2;whnf
  conv=>arg 4;dsimp only
  have HM:=hid hM
  clear hM
  go_loopw [11] (fun iv w'=>∃ j:Nat,j≤nb∧iv=.int .i64 (64*(j:Int))∧Qbo w' gh (Qu j so P)∧w.grownBy w' (some gh)) (fun iv _=>M-(intOf iv).toNat)
  case atStart=>exact ⟨0,by omega,by go_num,hh.out,Yc _ _⟩
  case round =>
    clear hh
    obtain ⟨j,hj,rfl,hh,hgr⟩:=hrel
    have hszC:=hgr.size
    by_cases hlt:j<nb
    · have hlt':64*(j:Int)<(M:Int):=by have:=HM.out;omega
      have hlt2:64*j+64≤M:=by have:=HM.out;omega
      obtain ⟨blk,hblk⟩:∃ blk,(P.drop (64*j)).take 64=blk:=⟨_,rfl⟩
      have HMC:Hid (∀ i,i<64→wr.cell? ⟨gm,64*j+i,none⟩=some (.int .u8 (b8 (blk.getD i 0)))):=hid (fun i hi=>by
        have h1:=hm.out (64*j+i) (by omega)
        rw [← hblk]
        have e:((P.drop (64*j)).take 64).getD i 0=P.getD (64*j+i) 0:=by simp [hi]
        rw [e,← h1]
        exact World.cell?_of_block (hgr.block gm hgm (by simp;omega)))
      have HKC:Hid (∀ t,t<64→wr.cell? ⟨gk,t,none⟩=some (.int .u32 (u (Qbi.getD t 0)))):=hid (fun t ht=>by
        rw [← hk.out t ht]
        exact World.cell?_of_block (hgr.block gk hgk (by simp;omega)))
      have hnext:=hid (Jv j so P)
      rw [hblk] at hnext
      obtain ⟨s,hs⟩:∃ s,Qu j so P=s:=⟨_,rfl⟩
      rw [hs] at hnext hh
      have HHH:=hid hh
      have HGR:=hid hgr
      clear hh hgr hblk hs
      have hgmr:gm<wr.heap.size:=by omega
      go_wp2_with fail
      refine Qfv _ _ _ _ _ _ _ _ _ _ _ _ _ _ _ _ _ _ _ _ _ _ _ _ _ _ _ _ _ _ _ _ _ _ _ _ _ _ _ _ _ _ _ _ _ _ _ _ _ _ _ _ _ _ _ _ _ _ _ _ _ _ _ _ _ _ _ _ _ _ _ _ _ _ _ _ _ _ _ _ _ _ _ _ _ _ _ _ _ _ _ _ _ _ _ _ _ _ _ _ _ _ _ _ _ _ _ _ _ _ _ _ _ _ _ _ _ _ _ _ _ _ _ _ _ _ _ _ _ _ _ _ _ _ _ _ _ _ _ _ _ _ _ _ _ _ _ _ _ _ _ _ _ _ _ _ _ _ _ _ _ _ _ _ _ _ _ _ _ _ _ _ _ _ _ _ _ _ _ _ _ _ _ _ _ _ _ _ _ _ _ _ _ _ _ _ _ _ _ _ _ _ _ _ _ _ _ _ _ _ _ _ _ _ _ _ _ _ _ _ _ _ _ _ _ _ _ _ _ _ _ _ _ _ _ _ _ _ _ _ _ _ _ _ _ _ _ _ _ _ _ _ _ _ _ _ _ _ _ _ _ _ _ _ _ _ _ _ _ _ _ _ _ _ _ _ _ _ _ _ _ _ _ _ _ _ _ _ _ _ _ _ _ _ _ _ _ _ gm M capm j blk wr hlt2 hM48 hcap HMC hgmr _ (hid ?_)
      intro BG BR Cc Ck Cl DM DN DO DP DQ DR DS Bc Bd Be Bf Bg Bh Bi Bj Bk Bl Bm Bn Bo Bp Bq Br Bs Bt Bu Bv Bw Bx By Bz BA BB BC BD BE BF BH BI BJ BK BL BM BN BO BP BQ BS BT BU BV BW BX BY BZ C0 C1 C2 C3 C4 C5 C6 C7 C8 C9 Ca Cb Cd Ce Cf Cg Ch Ci Cj vw w1 hownw hbw
      obtain ⟨ow,capw,rfl,_,hsw⟩:=QK hownw
      obtain ⟨gw,rfl,hgw,hglw,hcw⟩:=hsw (by omega)
      have hsz1:=hbw.size
      have HHH1:Hid (Qbo w1 gh s):=hid (fun i hi=>by
        rw [hbw.cell (by show gh<_;omega),hbw.frozen (by show gh<_;omega)];exact HHH.out i hi)
      have HKC1:Hid (∀ t,t<64→w1.cell? ⟨gk,t,none⟩=some (.int .u32 (u (Qbi.getD t 0)))):=hid (fun t ht=>by
        rw [hbw.cell (by show gk<_;omega)];exact HKC.out t ht)
      have HWC1:Hid (∀ t,t<64→w1.cell? ⟨gw,t,none⟩=some (.int .u32 (u ((wTo blk 64).getD t 0)))):=hid (fun t ht=>by
        rw [(hcw t ht).1,List.getElem?_map,getD_some (wTo blk 64) t 0 (by rw [Jq];exact ht)];rfl)
      have HG1:=hid (Qj HGR.out (Yn (r:=some gh) hbw))
      obtain ⟨c0,_⟩:=HHH1.out 0 (by omega)
      obtain ⟨c1,_⟩:=HHH1.out 1 (by omega)
      obtain ⟨c2,_⟩:=HHH1.out 2 (by omega)
      obtain ⟨c3,_⟩:=HHH1.out 3 (by omega)
      obtain ⟨c4,_⟩:=HHH1.out 4 (by omega)
      obtain ⟨c5,_⟩:=HHH1.out 5 (by omega)
      obtain ⟨c6,_⟩:=HHH1.out 6 (by omega)
      obtain ⟨c7,_⟩:=HHH1.out 7 (by omega)
      replace c0:w1.cell? ⟨gh,0,none⟩=some (.int .u32 (u s.a)):=c0
      replace c1:w1.cell? ⟨gh,1,none⟩=some (.int .u32 (u s.b)):=c1
      replace c2:w1.cell? ⟨gh,2,none⟩=some (.int .u32 (u s.c)):=c2
      replace c3:w1.cell? ⟨gh,3,none⟩=some (.int .u32 (u s.d)):=c3
      replace c4:w1.cell? ⟨gh,4,none⟩=some (.int .u32 (u s.e)):=c4
      replace c5:w1.cell? ⟨gh,5,none⟩=some (.int .u32 (u s.f)):=c5
      replace c6:w1.cell? ⟨gh,6,none⟩=some (.int .u32 (u s.g)):=c6
      replace c7:w1.cell? ⟨gh,7,none⟩=some (.int .u32 (u s.h)):=c7
      clear hownw hbw hsw hcw HGR HMC HHH HKC hgw
      go_wp2_with fail
      refine Jz (by kernel_rfl) (by kernel_rfl) ?_
      repeat still_step
      refine wpStill_nil ?_
      go_wp2_with fail
      refine Jz (by kernel_rfl) (by kernel_rfl) ?_
      repeat still_step
      refine wpStill_nil ?_
      clear c0 c1 c2 c3 c4 c5 c6 c7
      go_wp2_with fail
      refine QeB _ _ _ _ _ _ _ _ _ _ _ _ _ _ _ _ _ _ _ _ _ _ _ _ _ _ _ _ _ _ _ _ _ _ _ _ _ _ _ _ _ _ _ _ _ _ _ _ _ _ _ _ _ _ _ _ _ _ _ _ _ _ _ _ _ _ _ _ _ _ _ _ _ _ _ _ _ _ _ _ _ _ _ _ _ _ _ _ _ _ _ _ _ _ _ _ _ _ _ _ _ _ _ _ _ _ _ _ _ _ _ _ _ _ _ _ _ _ _ _ _ _ _ _ _ _ _ _ _ _ _ _ _ _ _ _ _ _ _ _ _ _ _ _ _ _ _ _ _ _ _ _ _ _ _ _ _ _ _ _ _ _ _ _ _ _ _ _ _ _ _ _ _ _ _ _ _ _ _ _ _ _ _ _ _ _ _ _ _ _ _ _ _ _ _ _ _ _ _ _ _ _ _ _ _ _ _ _ _ _ _ _ _ _ _ _ _ _ _ _ _ _ _ _ _ _ _ _ _ _ _ _ _ _ _ _ _ _ _ _ _ _ _ _ _ _ _ _ _ _ _ _ _ _ _ _ _ _ _ _ _ _ _ _ _ _ _ _ _ _ _ _ _ _ _ _ _ _ _ _ _ _ _ _ _ _ _ _ _ _ _ gk capk gw capw (wTo blk 64) s w1.drew.drew (hid HKC1.out) (hid HWC1.out) _ (hid ?_)
      intro Dt DE DH DI DJ Cm Cn Co Cp Cq Cr Cs Ct Cu Cv Cw Cx Cy Cz CA CB CC CD CE CF CG CH CI CJ CK CL CM CN CO CP CQ CR CS CT CU CV CW CX CY CZ D0 D1 D2 D3 D4 D5 D6 D7 D8 D9 Da Db Dc Dd De Df Dg Dh Di Dj Dk Dl Dm Dn Do Dp n
      obtain ⟨w2,hw2⟩:∃ w2,w1.drew.drew.drewN n=w2:=⟨_,rfl⟩
      have HHH2:Hid (Qbo w2 gh s):=hid (by rw [← hw2];exact HHH1.out)
      have HG2:Hid (w.grownBy w2 (some gh)):=hid (by rw [← hw2];exact ⟨HG1.out.os,HG1.out.tape,HG1.out.output,HG1.out.size,HG1.out.block⟩)
      have hsz2:w.heap.size≤w2.heap.size:=HG2.out.size
      rw [hw2]
      clear hw2 HHH1 HG1 HKC1 HWC1 hsz1 hglw
      obtain ⟨r,hr⟩:∃ r,rTo (wTo blk 64) s 64=r:=⟨_,rfl⟩
      rw [hr]
      have hmix:=hid (show Qu (j+1) so P=s.plus r by rw [hnext.out,← hr];rfl)
      clear hr hnext
      have HN:Hid (∀ (o:Obj),Qbo (w2.alloc o) gh s∧w.grownBy (w2.alloc o) (some gh)):=hid (fun o=>by
        have hb:=(Below.refl w2.heap.size w2).alloc (Nat.le_refl _) o
        refine ⟨fun i hi=>?_,Qj HG2.out (Yn (r:=some gh) hb)⟩
        rw [hb.cell (by show gh<_;omega),hb.frozen (by show gh<_;omega)]
        exact HHH2.out i hi)
      go_wp2_with fail
      refine Qgh _ _ _ _ _ _ _ _ _ _ _ _ _ _ _ _ _ _ _ _ _ _ _ _ _ _ _ _ _ _ _ _ _ _ _ _ _ _ _ _ _ _ _ _ _ _ _ _ _ _ _ _ _ _ _ _ _ _ _ _ _ _ _ _ _ _ _ _ _ _ _ _ _ _ _ _ _ _ _ _ _ _ _ _ _ _ _ _ _ _ _ _ _ _ _ _ _ _ _ _ _ _ _ _ _ _ _ _ _ _ _ _ _ _ _ _ _ _ _ _ _ _ _ _ _ _ _ _ _ _ _ _ _ _ _ _ _ _ _ _ _ _ _ _ _ _ _ _ _ _ _ _ _ _ _ _ _ _ _ _ _ _ _ _ _ _ _ _ _ _ _ _ _ _ _ _ _ _ _ _ _ _ _ _ _ _ _ _ _ _ _ _ _ _ _ _ _ _ _ _ _ _ _ _ _ _ _ _ _ _ _ _ _ _ _ _ _ _ _ _ _ _ _ _ _ _ _ _ _ _ _ _ _ _ _ _ _ _ _ _ _ _ _ _ _ _ _ _ _ _ _ _ _ _ _ _ _ _ _ _ _ _ _ _ _ _ _ _ _ _ _ _ _ _ _ _ _ _ _ _ _ _ _ _ _ _ _ _ _ _ _ _ _ _ _ _ _ _ gh caph w2.heap.size s r _ (by omega) (by simp) (hid (HN.out _).1) (hid ?_) _ (hid ?_)
      · intro i hi
        match i,hi with
        | 0,_ | 1,_ | 2,_ | 3,_ | 4,_ | 5,_ | 6,_ | 7,_=>simp [World.cell?_alloc_new,Oct.list]
      intro DK DL Dq Dr Ds Du Dv Dw Dx Dy Dz DA DB DC DD DF DG w3 h83 hg3
      have HH3:=hid h83
      have HG3:=hid (Qj (HN.out _).2 hg3)
      clear h83 hg3 HN HG2 HHH2
      go_wp2_with fail
      go_roundw
      case rel =>
        refine ⟨j+1,by omega,by go_num,?_,HG3.out⟩
        rw [hmix.out];exact HH3.out
      case measure=>simp [intOf];omega
    · obtain rfl:j=nb:=by omega
      have hge:(M:Int)≤64*(j:Int):=by have:=HM.out;omega
      have HC:=hid hh
      have HG:=hid hgr
      clear hh hgr hm hk
      go_wp2_with fail
      apply hQ.out
      · exact HC.out
      · exact HG.out
theorem QkQ (x:BitVec 32) (r:Nat) (h:r<4):(QH x).take (r+1)=(QH x).take r ++ [(x >>> (8*(3-r))).setWidth 8]:=by
  match r,h with
  | 0,_ | 1,_ | 2,_ | 3,_=>rfl
theorem QjJ (x:BitVec 32) (k:Nat):IntKind.u8.wrap (u x / 2 ^ k)=b8 ((x >>> k).setWidth 8):=by
  rw [Qcn]
  show IntKind.u8.wrap (((x >>> k).toNat:Nat):Int)=_
  rw [Qar]
  congr 1
theorem QgA (s:Oct) (k:Nat) (h:k<8):(s.list.take (k+1)).flatMap QH=(s.list.take k).flatMap QH ++ QH (s.list.getD k 0):=by
  match k,h with
  | 0,_ | 1,_ | 2,_ | 3,_ | 4,_ | 5,_ | 6,_ | 7,_=>rfl
theorem QhI (s0 s1 s2 s3 s4 s5 s6 s7 s8 s9 A0 Ab Am Ax AI AT B4 Bf Bq BB BM BX C8 Cj Cu CF CQ D1 Dc Df Dg Di Dj Dk Dl EC ED Dm Dn Do Dp Dq Dr Ds Dt Du Dv Dw Dx Dy Dz DA DB DC DD DE DF DG DH DI DJ DK DL DM DN DO DP DQ DR DS DT DU DV DW DX DY DZ E0 E1 E2 E3 E4 E5 E6 E7 E8 E9 Ea Eb Ec Ed Ee Ef Eg Eh Ei Ej Ek El A1 A2 A3 A4 A5 A6 A7 A8 A9 Aa Ac Ad Ae Af Ag Ah Ai Aj Ak Al An Ao Ap Aq Ar As At Au Av Aw Ay Az AA AB AC AD AE AF AG AH AJ AK AL AM AN AO AP AQ AR AS AU AV AW AX AY AZ B0 B1 B2 B3 B5 B6 B7 B8 B9 Ba Bb Bc Bd Be Bg Bh Bi Bj Bk Bl Bm Bn Bo Bp Br Bs Bt Bu Bv Bw Bx By Bz BA BC BD BE BF BG BH BI BJ BK BL BN BO BP BQ BR BS BT BU BV BW BY BZ C0 C1 C2 C3 C4 C5 C6 C7 C9 Ca Cb Cc Cd Ce Cf Cg Ch Ci Ck Cl Cm Cn Co Cp Cq Cr Cs Ct Cv Cw Cx Cy Cz CA CB CC CD CE CG CH CI CJ CK CL CM CN CO CP CR CS CT CU CV CW CX CY CZ D0 D2 D3 D4 D5 D6 D7 D8 D9 Da Db Dd De Em En Eo Ep Eq Er Es Et Eu Ev Ew Ex Ey Ez EA EB Dh:Value) (gh caph:Nat) (s:Oct) (w:World) (hgh:gh<w.heap.size)
    (hh:Hid (∀ i,i<8→w.cell? ⟨gh,i,none⟩=some (.int .u32 (u (s.list.getD i 0))))) (Q:Exit→Act→World→Prop)
    (hQ:Hid (∀ (EV EW EE EF EG EH EI EJ EK EL EM EN EO EP EQ ER ES ET EU v:Value) (w':World),w'.ownsRow w.heap.size 5 1 v 32 ((s.list.flatMap QH).map V)→Below w.heap.size w w'→Q .normal ⟨#[s0,s1,s2,s3,s4,s5,s6,s7,s8,s9,A0,Ab,Am,Ax,AI,AT,B4,Bf,Bq,BB,BM,BX,C8,Cj,Cu,CF,CQ,D1,Dc,Df,Dg,Di,Dj,Dk,v,Dl,EV,EW,Dm,Dn,Do,Dp,Dq,Dr,Ds,Dt,Du,Dv,Dw,Dx,Dy,Dz,DA,DB,DC,DD,DE,DF,DG,DH,DI,DJ,DK,DL,DM,DN,DO,DP,DQ,DR,DS,DT,DU,DV,DW,DX,DY,DZ,E0,E1,E2,E3,E4,E5,E6,E7,E8,E9,Ea,Eb,Ec,Ed,Ee,Ef,Eg,Eh,Ei,Ej,Ek,El,A1,A2,A3,A4,A5,A6,A7,A8,A9,Aa,Ac,Ad,Ae,Af,Ag,Ah,Ai,Aj,Ak,Al,An,Ao,Ap,Aq,Ar,As,At,Au,Av,Aw,Ay,Az,AA,AB,AC,AD,AE,AF,AG,AH,AJ,AK,AL,AM,AN,AO,AP,AQ,AR,AS,AU,AV,AW,AX,AY,AZ,B0,B1,B2,B3,B5,B6,B7,B8,B9,Ba,Bb,Bc,Bd,Be,Bg,Bh,Bi,Bj,Bk,Bl,Bm,Bn,Bo,Bp,Br,Bs,Bt,Bu,Bv,Bw,Bx,By,Bz,BA,BC,BD,BE,BF,BG,BH,BI,BJ,BK,BL,BN,BO,BP,BQ,BR,BS,BT,BU,BV,BW,BY,BZ,C0,C1,C2,C3,C4,C5,C6,C7,C9,Ca,Cb,Cc,Cd,Ce,Cf,Cg,Ch,Ci,Ck,Cl,Cm,Cn,Co,Cp,Cq,Cr,Cs,Ct,Cv,Cw,Cx,Cy,Cz,CA,CB,CC,CD,CE,CG,CH,CI,CJ,CK,CL,CM,CN,CO,CP,CR,CS,CT,CU,CV,CW,CX,CY,CZ,D0,D2,D3,D4,D5,D6,D7,D8,D9,Da,Db,Dd,De,.slice (some ⟨gh,0,none⟩) 8 caph,.int .i64 8,EE,EF,EG,EH,EI,EJ,EK,EL,EM,EN,EO,EP,EQ,ER,ES,ET,EU,Dh],[]⟩ w')) :
    Code.wp Tryz.prog ((Tryz.f120.body.bind (inBlock 16)).getD .skip) (Exit.inBlock 16 Q) ⟨#[s0,s1,s2,s3,s4,s5,s6,s7,s8,s9,A0,Ab,Am,Ax,AI,AT,B4,Bf,Bq,BB,BM,BX,C8,Cj,Cu,CF,CQ,D1,Dc,Df,Dg,Di,Dj,Dk,.slice none 0 0,Dl,EC,ED,Dm,Dn,Do,Dp,Dq,Dr,Ds,Dt,Du,Dv,Dw,Dx,Dy,Dz,DA,DB,DC,DD,DE,DF,DG,DH,DI,DJ,DK,DL,DM,DN,DO,DP,DQ,DR,DS,DT,DU,DV,DW,DX,DY,DZ,E0,E1,E2,E3,E4,E5,E6,E7,E8,E9,Ea,Eb,Ec,Ed,Ee,Ef,Eg,Eh,Ei,Ej,Ek,El,A1,A2,A3,A4,A5,A6,A7,A8,A9,Aa,Ac,Ad,Ae,Af,Ag,Ah,Ai,Aj,Ak,Al,An,Ao,Ap,Aq,Ar,As,At,Au,Av,Aw,Ay,Az,AA,AB,AC,AD,AE,AF,AG,AH,AJ,AK,AL,AM,AN,AO,AP,AQ,AR,AS,AU,AV,AW,AX,AY,AZ,B0,B1,B2,B3,B5,B6,B7,B8,B9,Ba,Bb,Bc,Bd,Be,Bg,Bh,Bi,Bj,Bk,Bl,Bm,Bn,Bo,Bp,Br,Bs,Bt,Bu,Bv,Bw,Bx,By,Bz,BA,BC,BD,BE,BF,BG,BH,BI,BJ,BK,BL,BN,BO,BP,BQ,BR,BS,BT,BU,BV,BW,BY,BZ,C0,C1,C2,C3,C4,C5,C6,C7,C9,Ca,Cb,Cc,Cd,Ce,Cf,Cg,Ch,Ci,Ck,Cl,Cm,Cn,Co,Cp,Cq,Cr,Cs,Ct,Cv,Cw,Cx,Cy,Cz,CA,CB,CC,CD,CE,CG,CH,CI,CJ,CK,CL,CM,CN,CO,CP,CR,CS,CT,CU,CV,CW,CX,CY,CZ,D0,D2,D3,D4,D5,D6,D7,D8,D9,Da,Db,Dd,De,.slice (some ⟨gh,0,none⟩) 8 caph,.int .i64 8,.int .i64 0,Em,En,Eo,Ep,Eq,Er,Es,Et,Eu,Ev,Ew,Ex,Ey,Ez,EA,EB,Dh],[]⟩ w:=by
  conv=>arg 2;whnf
  conv=>arg 4;dsimp only
  obtain ⟨i8,hi8,hz8,hs8,hb8⟩:=info_parts Zc
  go_loopw [34,284] (fun v i wr=>∃ k:Nat,k≤8∧i=.int .i64 k∧wr.ownsRow w.heap.size 5 1 v (4*k) (((s.list.take k).flatMap QH).map V)∧Below w.heap.size w wr) (fun _ i _=>8-(intOf i).toNat)
  case atStart=>exact ⟨0,by omega,rfl,World.ownsRow_nil _ _ _ _,Below.refl _ _⟩
  case round =>
    obtain ⟨k,hk,rfl,hown,hbe⟩:=hrel
    have hszr:=hbe.size
    by_cases hlt:k<8
    · have hlt':(k:Int)<8:=by omega
      have c1:wr.cell? ⟨gh,k,none⟩=some (.int .u32 (u (s.list.getD k 0))):=by rw [hbe.cell hgh];exact hh.out k hlt
      have hws:=QgA s k hlt
      obtain ⟨x,hx⟩:∃ x,s.list.getD k 0=x:=⟨_,rfl⟩
      rw [hx] at c1 hws
      have HO:Hid (wr.ownsRow w.heap.size 5 1 u34 (4*k+0) (((s.list.take k).flatMap QH ++ (QH x).take 0).map V)):=hid (by simpa using hown)
      have HB:=hid hbe
      have HWS:=hid hws
      clear hown hbe hx hws
      go_wp2_with fail
      go_loopw [34,37] (fun v i w'=>∃ r:Nat,r≤4∧i=.int .i64 ((3:Int)-(r:Int))∧w'.ownsRow w.heap.size 5 1 v (4*k+r) (((s.list.take k).flatMap QH ++ (QH x).take r).map V)∧Below w.heap.size w w') (fun _ i _=>(intOf i+1).toNat)
      case atStart=>exact ⟨0,by omega,by go_num,HO.out,HB.out⟩
      case round =>
        clear HO HB c1 hszr
        obtain ⟨r,hr,rfl,hown,hbe⟩:=hrel
        have hszr:=hbe.size
        have HO:=hid hown
        have HB:=hid hbe
        clear hown hbe
        by_cases hlt4:r<4
        · have e1:((8:Int)*((3:Int)-(r:Int))).toNat=8*(3-r):=by omega
          have h1:(0:Int)≤(8:Int)*((3:Int)-(r:Int)):=by omega
          have h0:(0:Int)≤(3:Int)-(r:Int):=by omega
          have h0':(r:Int)≤3:=by omega
          have hmn:min (8*(3-r)) 32=8*(3-r):=by omega
          have hby:=QjJ x (8*(3-r))
          have hwb:=hid (QkQ x r hlt4)
          obtain ⟨y,hy⟩:∃ y,(x >>> (8*(3-r))).setWidth 8=y:=⟨_,rfl⟩
          rw [hy] at hby hwb
          clear hy
          go_wp2_with (at_builtin;refine wpList_append_own _ rfl (.tmp 292) (.tmp 298) 29 rfl w.heap.size 5 i8 (.int .u8 0) 1 1 Tryz.underlying29 hi8 hz8 hs8 hb8 rfl (by decide) _ _ _ rfl (HO.out.alloc _) ⟨wr.heap.size,0,none⟩ 1 1 [V y] rfl rfl (Ju _ _ _) (by simp [V,Value.oneCell']) (by unfold maxLen;omega) (by omega) (by simp;omega) ?_;intro v5 w5 hown5 hg5 _;have HO5:=hid hown5;have HB5:=hid (JZ HB.out hszr HO.out _ hg5);clear hown5 hg5)
          go_roundw
          case rel =>
            refine ⟨r+1,by omega,by congr 1;omega,?_,HB5.out⟩
            rw [hwb.out,← List.append_assoc,List.map_append]
            exact HO5.out
          case measure=>simp [intOf];omega
        · obtain rfl:r=4:=by omega
          go_wp2_with fail
          go_roundw
          case rel =>
            refine ⟨k+1,by omega,by go_num,?_,HB.out⟩
            rw [HWS.out]
            exact HO.out
          case measure=>simp [intOf];omega
    · obtain rfl:k=8:=by omega
      have HO:=hid hown
      have HB:=hid hbe
      clear hown hbe hh
      go_wp2_with fail
      apply hQ.out
      · exact HO.out
      · exact HB.out
theorem Qgl (l:List (BitVec 8)) (sv:Value) (N:Nat) (w:World) (hN:N≤w.heap.size) (hb:Bytes w N sv l) (hlen:l.length≤140737488352232) :
    Calls Tryz.prog 120 #[sv] w fun e w' =>
      ∃ v,e=.returned v∧w'.ownsRow w.heap.size 5 1 v 32 ((sha l).map V)∧Below w.heap.size w w':=by
  obtain ⟨i8,hi8,hz8,hs8,hb8⟩:=info_parts Zc
  obtain ⟨i32,hi32,hz32,hs32,hb32⟩:=info_parts Qe0
  obtain ⟨oa,cap,rfl,hcap⟩:=hb.shape
  have HBY:=hid hb
  have HLEN:=hid hlen
  clear hb hlen
  go_enter Tryz.func120,Tryz.ntmps120
  go_wp2_with fail
  refine (Qgj _).mono ?_
  rintro e w1 ⟨vp,rfl,hownp,hb1⟩
  have hsz1:=hb1.size
  obtain ⟨op,capp,rfl,hcp,hsomep⟩:=QK hownp
  obtain ⟨gp,rfl,hgp,hglp,hcellp⟩:=hsomep (by omega)
  have HP:=hid hcellp
  have HB1:=hid hb1
  clear hownp hb1 hcellp
  go_wp2_with fail
  go_loopw [4,5,41] (fun vk vh i wr=>∃ t:Nat,t≤64∧i=.int .i64 t∧wr.ownsRow w1.heap.size 163 1 vk t ((kTo t).map U)∧wr.ownsRow w1.heap.size 163 1 vh (min t 8) ((hTo (min t 8)).map U)∧Qa5 vk vh∧Below w1.heap.size w1 wr) (fun _ _ i _=>64-(intOf i).toNat)
  case atStart=>exact ⟨0,by omega,rfl,World.ownsRow_nil _ _ _ _,World.ownsRow_nil _ _ _ _,Qha _,Below.refl _ _⟩
  case round =>
    obtain ⟨t,ht,rfl,hk,hh,hap,hbe⟩:=hrel
    have hszr:=hbe.size
    by_cases hlt:t<64
    · obtain ⟨p,hp⟩:∃ p,(Qt 310).getD t 0=p:=⟨_,rfl⟩
      have hpl:=QiI t hlt
      have hks:=Qir t hlt
      have hhs:=Qip t hlt
      have dp:wr.cell? ⟨gp,t,none⟩=some (.int .u64 (p:Int)):=by
        rw [hbe.cell (by show gp<w1.heap.size;exact hglp),(HP.out t hlt).1,List.getElem?_map,getD_some (Qt 310) t 0 (by rw [Zx];exact hlt),hp];rfl
      rw [hp] at hpl hks hhs
      have HK:=hid hk
      have HH:=hid hh
      have HAP:=hid hap
      have HBE:=hid hbe
      have HKS:=hid hks
      have HHS:=hid hhs
      have HPL:=hid hpl
      have hlt':(t:Int)<64:=by omega
      clear hk hh hap hbe hks hhs hpl hp
      by_cases h8:t<8
      · have h8':(t:Int)<8:=by omega
        have hmin:min t 8=t:=by omega
        go_wp2_with (first | (go_at_call 139;refine (Qfr p _ HPL.out _).mono ?_;rintro e w' ⟨rfl,hw⟩;obtain rfl:=hw.symm;clear hw) | (at_builtin;refine wpList_append_lies _ rfl (.tmp 46) (.tmp 49) 180 rfl w1.heap.size 163 i32 (.int .u32 0) 1 4 Tryz.underlying180 hi32 hz32 hs32 hb32 rfl (by decide) _ _ _ rfl (HK.out.alloc _) ⟨wr.heap.size,0,none⟩ 1 1 [U (J8 p false)] rfl rfl (Ju _ _ _) (by simp [U,Value.oneCell']) (by decide) (by unfold maxLen;omega) (by omega) (by simp;omega) (wr.heap.size+1) (by simp) ?_;intro g1 cap1 w2 hown1 hgrow1 hat1 hlt1;have HH2:=hid ((HH.out.alloc _).kept hgrow1 HAP.out.symm.ne);have HAP2:=hid (HAP.out.app (n:=t+1) (cap:=cap1) hat1 (fun k hk=>Nat.lt_succ_of_lt (HH.out.lt k hk).2));have HO1:=hid hown1;have HBE2:=hid (JZ HBE.out hszr HK.out _ hgrow1);have hsz2:=HBE2.out.size;clear hown1 hgrow1 hat1 hlt1) | (at_builtin;refine wpList_append_lies _ rfl (.tmp 53) (.tmp 56) 180 rfl w1.heap.size 163 i32 (.int .u32 0) 1 4 Tryz.underlying180 hi32 hz32 hs32 hb32 rfl (by decide) _ _ _ rfl (HH2.out.alloc _) ⟨w2.heap.size,0,none⟩ 1 1 [U (J8 p true)] rfl rfl (Ju _ _ _) (by simp [U,Value.oneCell']) (by decide) (by unfold maxLen;omega) (by omega) (by simp;omega) (w2.heap.size+1) (by simp) ?_;intro g2 cap2 w3 hown2 hgrow2 hat2 hlt2;have HO2:=hid hown2;have HK3:=hid ((HO1.out.alloc _).kept hgrow2 HAP2.out.ne);have HAP3:=hid (HAP2.out.symm.app (n:=min t 8+1) (cap:=cap2) hat2 (fun k hk=>Nat.lt_succ_of_lt (HO1.out.lt k hk).2));have HBE3:=hid (JZ HBE2.out hsz2 HH2.out _ hgrow2);clear hown2 hgrow2 hat2 hlt2))
        go_roundw
        case rel =>
          have hm2:min (t+1) 8=t+1:=by omega
          refine ⟨t+1,by omega,by go_num,?_,?_,HAP3.out.symm,HBE3.out⟩
          · rw [HKS.out,List.map_append];exact HK3.out
          · have h:=HO2.out
            rw [hm2,HHS.out,List.map_append]
            rw [hmin] at h
            exact h
        case measure=>simp [intOf];omega
      · have h8':(8:Int)≤(t:Int):=by omega
        go_wp2_with (first | (go_at_call 139;refine (Qfr p _ HPL.out _).mono ?_;rintro e w' ⟨rfl,hw⟩;obtain rfl:=hw.symm;clear hw) | (at_builtin;refine wpList_append_lies _ rfl (.tmp 46) (.tmp 49) 180 rfl w1.heap.size 163 i32 (.int .u32 0) 1 4 Tryz.underlying180 hi32 hz32 hs32 hb32 rfl (by decide) _ _ _ rfl (HK.out.alloc _) ⟨wr.heap.size,0,none⟩ 1 1 [U (J8 p false)] rfl rfl (Ju _ _ _) (by simp [U,Value.oneCell']) (by decide) (by unfold maxLen;omega) (by omega) (by simp;omega) (wr.heap.size+1) (by simp) ?_;intro g1 cap1 w2 hown1 hgrow1 hat1 hlt1;have HH2:=hid ((HH.out.alloc _).kept hgrow1 HAP.out.symm.ne);have HAP2:=hid (HAP.out.app (n:=t+1) (cap:=cap1) hat1 (fun k hk=>Nat.lt_succ_of_lt (HH.out.lt k hk).2));have HO1:=hid hown1;have HBE2:=hid (JZ HBE.out hszr HK.out _ hgrow1);have hsz2:=HBE2.out.size;clear hown1 hgrow1 hat1 hlt1))
        go_roundw
        case rel =>
          have hm1:min t 8=8:=by omega
          have hm2:min (t+1) 8=8:=by omega
          refine ⟨t+1,by omega,by go_num,?_,?_,HAP2.out,HBE2.out⟩
          · rw [HKS.out,List.map_append];exact HO1.out
          · have h:=HH2.out
            rw [hm1] at h
            rw [hm2];exact h
        case measure=>simp [intOf];omega
    · obtain rfl:t=64:=by omega
      obtain ⟨wA,hA⟩:∃ wA,wA=wr:=⟨_,rfl⟩
      subst hA
      rw [Qjq] at hk
      have hh8:min 64 8=8:=rfl
      rw [hh8,Qjp] at hh
      obtain ⟨ok,capk,rfl,_,hsk⟩:=QK hk
      obtain ⟨gk,rfl,hgk,hglk,_⟩:=hsk (by omega)
      obtain ⟨oh,caph,rfl,_,hsh⟩:=QK hh
      obtain ⟨gh,rfl,hgh,hglh,_⟩:=hsh (by omega)
      have hgne:gk≠gh:=fun e=>hap gk rfl (by rw [e];rfl)
      have hbel:Below w.heap.size w wA:=HB1.out.trans (hbe.mono hsz1)
      have hby:=HBY.out.below (hbel.mono hN)
      have hby1:=hby.below (N:=N) (w':=wA.alloc (.cells #[] 5)) ((Below.refl _ _).alloc (by omega) _)
      have HK:=hid hk
      have HH:=hid hh
      have HBEL:=hid hbel
      have HBY1:=hid hby1
      clear hk hh hap hbe hsk hsh hh8 HP hbel hby hby1 HBY HB1
      have HMT:=hid (World.ownsRow_made (e:=5) (size:=1) (base:=wA.heap.size) wA #[] 0 (Nat.le_refl _) (by decide) rfl)
      have hn47:=HLEN.out
      generalize hll:l.length=n at *
      have HLL:=hid hll
      clear hll
      go_wp2_with (first
        | (at_builtin;refine Qa4 rfl (.tmp 59) (.tmp 60) rfl wA.heap.size _ _ _ rfl HMT.out _ l rfl HBY1.out (by rw [HLL.out];omega) (by simp) ?_;intro v3 w3 hown3 hb3;have hsz3:=hb3.size;have HO3:=hid hown3;have HB3:=hid (((Below.refl _ _).alloc (Nat.le_refl _) _).trans hb3:Below wA.heap.size wA w3);clear hown3 hb3)
        | (at_builtin;refine wpList_append_own _ rfl (.tmp 61) (.tmp 62) 29 rfl wA.heap.size 5 i8 (.int .u8 0) 1 1 Tryz.underlying29 hi8 hz8 hs8 hb8 rfl (by decide) _ _ _ rfl (HO3.out.alloc _) ⟨w3.heap.size,0,none⟩ 1 1 [V 128] rfl rfl (Ju _ _ _) (by simp [V,Value.oneCell']) (by rw [HLL.out];unfold maxLen;omega) (by rw [HLL.out];omega) (by have h:=HB3.out.size;simp;omega) ?_;intro v4 w4 hown4 hg4 _;have HO4:=hid hown4;have HB4:=hid (JZ HB3.out (HB3.out.size) HO3.out _ hg4);clear hown4 hg4))
      have HO4':Hid (w4.ownsRow wA.heap.size 5 1 v4 (n+1+0) ((Z5 l 0 0).map V)):=hid (by
        have h:=HO4.out
        rw [HLL.out] at h
        simpa [Z5] using h)
      clear HO4 HO3 HB3 hsz3 HMT HBY1
      go_loopw [8] (fun v w'=>∃ z:Nat,z≤JX n∧w'.ownsRow wA.heap.size 5 1 v (n+1+z) ((Z5 l z 0).map V)∧Below wA.heap.size wA w') (fun v _=>n+1+JX n-lenOf v)
      case atStart=>exact ⟨0,by omega,HO4'.out,HB4.out⟩
      case round =>
        clear HO4' HB4
        obtain ⟨z,hz,hown,hbe⟩:=hrel
        obtain ⟨om,capm,rfl,hcm,hsm⟩:=QK hown
        have hszr:=hbe.size
        have HO:=hid hown
        have HB:=hid hbe
        have hz64:JX n<64:=by unfold JX;omega
        clear hown hbe hsm
        by_cases hlt:z<JX n
        ·
          have hmore:=QiD n z hlt
          generalize hq:n+1+z=q at *
          have HQ:=hid hq
          have hq48:(q:Int)<140737488355328:=by omega
          have hq48':q<140737488355328:=by omega
          clear hq
          go_wp2_with (at_builtin;refine wpList_append_own _ rfl (.tmp 68) (.tmp 69) 29 rfl wA.heap.size 5 i8 (.int .u8 0) 1 1 Tryz.underlying29 hi8 hz8 hs8 hb8 rfl (by decide) _ _ _ rfl (HO.out.alloc _) ⟨wr.heap.size,0,none⟩ 1 1 [V 0] rfl rfl (Ju _ _ _) (by simp [V,Value.oneCell']) (by unfold maxLen;omega) (by omega) (by simp;omega) ?_;intro v5 w5 hown5 hg5 _;have HO5:=hid hown5;have HB5:=hid (JZ HB.out hszr HO.out _ hg5);clear hown5 hg5)
          go_roundw
          case rel =>
            refine ⟨z+1,by omega,?_,HB5.out⟩
            have h:=HO5.out
            rw [Qgf,List.map_append,show n+1+(z+1)=q+1 by have:=HQ.out;omega]
            exact h
          case measure =>
            obtain ⟨o5,c5,h5,_⟩:=QK HO5.out
            rw [h5]
            have:=HQ.out
            simp [lenOf]
            omega
        · obtain rfl:z=JX n:=by omega
          have hdone:=QiC n
          generalize hq:n+1+JX n=q at *
          have HQ:=hid hq
          have hq48:(q:Int)<140737488355328:=by omega
          have hq48':q<140737488352900:=by omega
          have hwl:IntKind.u64.wrap (n:Int)=(n:Int):=by simp [IntKind.wrap,IntKind.bits,IntKind.signed];omega
          have hwm:IntKind.u64.wrap ((8:Int)*(n:Int))=((8*n:Nat):Int):=by simp [IntKind.wrap,IntKind.bits,IntKind.signed];omega
          clear hq
          go_wp2_with fail
          have HO0:Hid (wr.ownsRow wA.heap.size 5 1 (.slice om q capm) (q+0) ((Z5 l (JX n) 0).map V)):=hid HO.out
          clear hdone hwl hwm
          go_loopw [8,10] (fun v i w'=>∃ r:Nat,r≤8∧i=.int .i64 ((7:Int)-(r:Int))∧w'.ownsRow wA.heap.size 5 1 v (q+r) ((Z5 l (JX n) r).map V)∧Below wA.heap.size wA w') (fun _ i _=>(intOf i+1).toNat)
          case atStart=>exact ⟨0,by omega,by go_num,HO0.out,HB.out⟩
          case round =>
            clear HO0 HO HB
            obtain ⟨r,hr,rfl,hown,hbe⟩:=hrel
            have hszr:=hbe.size
            have HO:=hid hown
            have HB:=hid hbe
            clear hown hbe
            by_cases hlt:r<8
            ·
              have e1:((8:Int)*((7:Int)-(r:Int))).toNat=8*(7-r):=by omega
              have h1:(0:Int)≤(8:Int)*((7:Int)-(r:Int)):=by omega
              have h0:(0:Int)≤(7:Int)-(r:Int):=by omega
              have h0':(r:Int)≤7:=by omega
              have hmn:min (8*(7-r)) 64=8*(7-r):=by omega
              have hby:IntKind.u8.wrap ((8:Int)*(n:Int) / 2 ^ (8*(7-r)))=b8 (BitVec.ofNat 8 (8*n / 2 ^ (8*(7-r)))):=by
                rw [← Qar];simp
              obtain ⟨x,hx⟩:∃ x,BitVec.ofNat 8 (8*n / 2 ^ (8*(7-r)))=x:=⟨_,rfl⟩
              rw [hx] at hby
              have HX:=hid hx
              clear hx
              go_wp2_with (at_builtin;refine wpList_append_own _ rfl (.tmp 79) (.tmp 85) 29 rfl wA.heap.size 5 i8 (.int .u8 0) 1 1 Tryz.underlying29 hi8 hz8 hs8 hb8 rfl (by decide) _ _ _ rfl (HO.out.alloc _) ⟨wr.heap.size,0,none⟩ 1 1 [V x] rfl rfl (Ju _ _ _) (by simp [V,Value.oneCell']) (by unfold maxLen;omega) (by omega) (by simp;omega) ?_;intro v5 w5 hown5 hg5 _;have HO5:=hid hown5;have HB5:=hid (JZ HB.out hszr HO.out _ hg5);clear hown5 hg5)
              go_roundw
              case rel =>
                refine ⟨r+1,by omega,by congr 1;omega,?_,HB5.out⟩
                have hp:=Qge l (JX n) r hlt
                rw [HLL.out,HX.out] at hp
                rw [hp,List.map_append]
                exact HO5.out
              case measure=>simp [intOf];omega
            · obtain rfl:r=8:=by omega
              obtain ⟨wB,hB⟩:∃ wB,wB=wr:=⟨_,rfl⟩
              subst hB
              have hpa:=QhJ l
              rw [HLL.out] at hpa
              rw [hpa] at HO
              obtain ⟨om2,capm2,rfl,hcm2,hsm2⟩:=QK HO.out
              obtain ⟨gm,rfl,hgm,hglm,hcellm⟩:=hsm2 (by omega)
              have HM:Hid (∀ j,j<q+8→wB.cell? ⟨gm,j,none⟩=some (.int .u8 (b8 ((JS l).getD j 0)))):=hid (fun j hj=>by
                have hpl:=QdD l
                have hl0:(JS l).length=q+8:=by
                  have h:=HO.out.1;simpa using h
                rw [(hcellm j hj).1,List.getElem?_map,getD_some (JS l) j 0 (by omega)];rfl)
              have hblk:q+8=64*((n+72) / 64):=by have h1:=HQ.out;unfold JX at h1;omega
              have HBLK:=hid hblk
              clear hcellm hsm2 hpa hblk
              have hbAB:=HB.out
              have hszB:=hbAB.size
              have HKC:Hid (∀ t,t<64→wB.cell? ⟨gk,t,none⟩=some (.int .u32 (u (Qbi.getD t 0)))):=hid (fun t ht=>by
                obtain ⟨_,_,e1,_,hx⟩:=QK HK.out
                obtain ⟨g',e2,_,_,hc⟩:=hx (by omega)
                have e3:g'=gk:=by cases e1;cases e2;rfl
                subst e3
                rw [hbAB.cell hglk,(hc t ht).1,List.getElem?_map,getD_some Qbi t 0 (by show t<64;exact ht)];rfl)
              have HHC:Hid (∀ i,i<8→wB.cell? ⟨gh,i,none⟩=some (.int .u32 (u (Jm.list.getD i 0)))∧wB.frozen? ⟨gh,i,none⟩=false):=hid (fun i hi=>by
                obtain ⟨_,_,e1,_,hx⟩:=QK HH.out
                obtain ⟨g',e2,_,_,hc⟩:=hx (by omega)
                have e3:g'=gh:=by cases e1;cases e2;rfl
                subst e3
                refine ⟨?_,(hbAB.frozen hglh).trans (hc i hi).2⟩
                rw [hbAB.cell hglh,(hc i hi).1,List.getElem?_map,getD_some Jm.list i 0 (by show i<8;exact hi)];rfl)
              have HBELB:=hid (HBEL.out.trans (hbAB.mono (by have:=HBEL.out.size;omega)))
              obtain ⟨nb,hnb⟩:∃ nb,(n+72) / 64=nb:=⟨_,rfl⟩
              have hq8:q+8=64*nb:=by rw [← hnb];exact HBLK.out
              have HNB:=hid hnb
              have HQ8:=hid hq8
              have hAw:w.heap.size≤wA.heap.size:=HBEL.out.size
              have hmi8:IntKind.i64.wrap ((q:Int)+8)=(q:Int)+8:=by simp [IntKind.wrap,IntKind.bits,IntKind.signed];split <;> omega
              obtain ⟨M,hM⟩:∃ M,q+8=M:=⟨_,rfl⟩
              rw [hM] at hq8 HM hcm2 HQ8 ⊢
              have hM48:M<140737488353000:=by omega
              clear HO HB HK HH hnb hbAB HBLK HQ hM hmi8 hq48 hq48'
              go_wp2_with fail
              have hmh:gm≠gh:=by omega
              have hgkB:gk<wB.heap.size:=by omega
              have hghB:gh<wB.heap.size:=by omega
              refine Qf9 _ _ _ _ _ _ _ _ _ _ _ _ _ _ _ _ _ _ _ _ _ _ _ _ _ _ _ _ _ _ _ _ _ _ _ _ _ _ _ _ _ _ _ _ _ _ _ _ _ _ _ _ _ _ _ _ _ _ _ _ _ _ _ _ _ _ _ _ _ _ _ _ _ _ _ _ _ _ _ _ _ _ _ _ _ _ _ _ _ _ _ _ _ _ _ _ _ _ _ _ _ _ _ _ _ _ _ _ _ _ _ _ _ _ _ _ _ _ _ _ _ _ _ _ _ _ _ _ _ _ _ _ _ _ _ _ _ _ _ _ _ _ _ _ _ _ _ _ _ _ _ _ _ _ _ _ _ _ _ _ _ _ _ _ _ _ _ _ _ _ _ _ _ _ _ _ _ _ _ _ _ _ _ _ _ _ _ _ _ _ _ _ _ _ _ _ _ _ _ _ _ _ _ _ _ _ _ _ _ _ _ _ _ _ _ _ _ _ _ _ _ _ _ _ _ _ _ _ _ _ _ _ _ _ _ _ _ _ _ _ _ _ _ _ _ _ _ _ _ _ _ _ _ _ _ _ _ _ _ _ _ _ _ _ _ _ _ _ _ _ _ _ _ _ _ _ _ _ _ _ _ _ _ _ _ _ _ _ _ _ _ _ _ _ _ _ _ _ gk capk gh caph gm M capm2 nb (JS l) Jm wB hgne hmh hgkB hghB hglm hq8 hM48 hcm2 HM HKC HHC _ (hid ?_)
              intro u11 u12 u13 u14 u15 u16 u17 u18 u19 u20 u21 u22 u23 u24 u25 u26 u27 u28 u29 u30 u31 u32 u33 u87 u88 u89 u90 u91 u92 u93 u94 u95 u96 u97 u98 u99 u100 u101 u102 u103 u104 u105 u106 u107 u108 u109 u110 u111 u112 u113 u114 u115 u116 u117 u118 u119 u120 u121 u122 u123 u124 u125 u126 u127 u128 u129 u130 u131 u132 u133 u134 u135 u136 u137 u138 u139 u140 u141 u142 u143 u144 u145 u146 u147 u148 u149 u150 u151 u152 u153 u154 u155 u156 u157 u158 u159 u160 u161 u162 u163 u164 u165 u166 u167 u168 u169 u170 u171 u172 u173 u174 u175 u176 u177 u178 u179 u180 u181 u182 u183 u184 u185 u186 u187 u188 u189 u190 u191 u192 u193 u194 u195 u196 u197 u198 u199 u200 u201 u202 u203 u204 u205 u206 u207 u208 u209 u210 u211 u212 u213 u214 u215 u216 u217 u218 u219 u220 u221 u222 u223 u224 u225 u226 u227 u228 u229 u230 u231 u232 u233 u234 u235 u236 u237 u238 u239 u240 u241 u242 u243 u244 u245 u246 u247 u248 u249 u250 u251 u252 u253 u254 u255 u256 u257 u258 u259 u260 u261 u262 u263 u264 u265 u266 u267 u268 u269 u270 u271 u272 u273 u274 u275 u276 u277 u278 u279 u280 u281 wC h8C hgC
              have HC8:=hid h8C
              have hszC:=hgC.size
              have HBC:=hid (HBELB.out.grown hgC (by omega) (fun k hk=>by cases hk;omega))
              clear h8C hgC HM HKC HHC HBELB
              go_wp2_with fail
              refine QhI _ _ _ _ _ _ _ _ _ _ _ _ _ _ _ _ _ _ _ _ _ _ _ _ _ _ _ _ _ _ _ _ _ _ _ _ _ _ _ _ _ _ _ _ _ _ _ _ _ _ _ _ _ _ _ _ _ _ _ _ _ _ _ _ _ _ _ _ _ _ _ _ _ _ _ _ _ _ _ _ _ _ _ _ _ _ _ _ _ _ _ _ _ _ _ _ _ _ _ _ _ _ _ _ _ _ _ _ _ _ _ _ _ _ _ _ _ _ _ _ _ _ _ _ _ _ _ _ _ _ _ _ _ _ _ _ _ _ _ _ _ _ _ _ _ _ _ _ _ _ _ _ _ _ _ _ _ _ _ _ _ _ _ _ _ _ _ _ _ _ _ _ _ _ _ _ _ _ _ _ _ _ _ _ _ _ _ _ _ _ _ _ _ _ _ _ _ _ _ _ _ _ _ _ _ _ _ _ _ _ _ _ _ _ _ _ _ _ _ _ _ _ _ _ _ _ _ _ _ _ _ _ _ _ _ _ _ _ _ _ _ _ _ _ _ _ _ _ _ _ _ _ _ _ _ _ _ _ _ _ _ _ _ _ _ _ _ _ _ _ _ _ _ _ _ _ _ _ _ _ _ _ _ _ _ _ _ _ _ _ _ _ _ _ _ _ _ _ gh caph (Qu nb Jm (JS l)) wC (by omega) (hid fun i hi=>(HC8.out i hi).1) _ (hid ?_)
              intro u36z u37z u284z u285z u286z u287z u288z u289z u290z u291z u292z u293z u294z u295z u296z u297z u298z u299z u300z vz wz hownz hbz
              have HOZ:=hid (YA hownz (show w.heap.size≤wC.heap.size by omega))
              have HBZ:=hid (HBC.out.trans (hbz.mono (by omega)))
              clear hownz hbz HC8 HBC
              go_wp2_with fail
              go_ret
              refine ⟨_,rfl,?_,HBZ.out⟩
              have hs:sha l=(Qu nb Jm (JS l)).list.flatMap QH:=by
                unfold sha
                rw [HLL.out,HNB.out]
              rw [hs]
              exact HOZ.out
theorem QjC (l:List (BitVec 8)) (sv:Value) (N:Nat) (w:World) (hN:N≤w.heap.size) (hb:Bytes w N sv l) (hK:Qy w) (hlen:l.length<2305843009213693952) :
    Calls Tryz.prog 113 #[sv] w fun e w' =>
      ∃ v,e=.returned v∧w'.ownsRow w.heap.size 5 1 v 32 ((sha l).map V)∧Below w.heap.size w w':=by
  have hzv:=QfN
  have HBY:=hid hb
  have HK:=hid hK
  have HLEN:=hid hlen
  clear hb hK hlen
  go_enter Tryz.func113,Tryz.ntmps113
  go_wp2_with fail
  refine (Qhb _).mono ?_
  rintro e w1 ⟨rfl,hb1⟩
  have HB1:=hid hb1
  clear hb1
  go_wp2_with (refine wpList_store_row rfl 167 _ _ rfl w1.heap.size Qdy.toArray rfl rfl 167 Qhk.toArray (heap_alloc_new _ _) Qht Qhl Qih ?_)
  obtain ⟨w2,hw2⟩:∃ w2,World.setRow (w1.alloc (.cells Qhk.toArray 167)) w1.heap.size Qdy.toArray=w2:=⟨_,rfl⟩
  rw [hw2]
  have hrow2:Row w2 w1.heap.size 167 (Qax [] (List.replicate 64 0)):=by
    rw [← hw2,Qhj];exact setRow_heap _ _ Qhk.toArray _ _ _ (heap_alloc_new _ _)
  have hbel2:Below w1.heap.size w1 w2:=by
    rw [← hw2];exact ((Below.refl _ _).alloc (Nat.le_refl _) _).trans ⟨rfl,rfl,rfl,by simp,fun k hk=>setRow_other _ _ _ _ (by omega)⟩
  have hsz1:=HB1.out.size
  have hbel02:Below w.heap.size w w2:=HB1.out.trans (hbel2.mono hsz1)
  have htab2:Qy w2:=HK.out.below hbel02 HK.out.lt
  have hne:w1.heap.size≠1:=by have:=HK.out.lt;omega
  have htake:=QiY [] l (List.replicate 64 0) sv N w1.heap.size w2 Qi9 hrow2 (by omega) hne (HBY.out.below (hbel02.mono hN)) htab2 (by have:=HLEN.out;simpa using this)
  have HTK:=hid htake
  have HB02:=hid hbel02
  have HT2:=hid htab2
  have HS2:=hid hrow2.lt
  clear htake hbel02 htab2 hrow2 hbel2 hw2 HBY
  refine HTK.out.mono ?_
  rintro e w3 ⟨rfl,hg3,R',hA,hrow3⟩
  have hfin:=Qf1 ([] ++ l) R' w1.heap.size w3 hA hrow3 hne (HT2.out.grown hg3 hne) (by have:=HLEN.out;simpa using this)
  rw [List.nil_append] at hfin
  have HFIN:=hid hfin
  have hsz3:=hg3.size
  have HG3:=hid hg3
  clear hfin hg3 hrow3 hA HTK
  go_wp2_with fail
  refine HFIN.out.mono ?_
  rintro e w4 ⟨v,rfl,hown,hg4⟩
  go_wp2
  go_ret
  have h2:=HS2.out
  have h02:=HB02.out.size
  exact ⟨_,rfl,YA hown (by omega),HB02.out.trans ((Qcd HG3.out hsz1 (by omega)).trans (Qcd hg4 hsz1 (by omega)))⟩
end Go.Proofs.YtbgdpfeobklnhaaGreatDoor
