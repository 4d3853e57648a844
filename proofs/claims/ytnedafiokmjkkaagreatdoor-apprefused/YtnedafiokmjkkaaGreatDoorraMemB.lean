/- Plain mathematics of SHA-256 over words of 32 bits (bit vect. -/
import Derived.Laws.Tables
import Derived.Test.YtnedafiokmjkkaaGreatDoorProg
import Derived.Laws.BitsAllLaws
import Derived.StillTailTactics
import Derived.Deep.QuietTactic
import Derived.WalkKit
import Derived.Below
import Derived.Laws.AppendOwnNone
import Derived.Laws.OwnMore
import Derived.Deep.AppendLies
import Derived.WalkLawsBesides
import Derived.WalkSpells
import Derived.Lib.Mul64
import Derived.Lib.SlBytesConst
import GoSem.Claim
import GoSem.ClaimJoined
import GoSem.ClaimMapViews
import Derived.JoinedTies
import Derived.KernelRfl
import Derived.ProofKit
import Derived.OpenShut
import Derived.ShutString
import Derived.ChangeOld
import Derived.SizedLaws
import Derived.Deep.DeepHandedRow
import Derived.Laws.IdiomCopy
import Derived.Lib.SliceRun
import Derived.Lib.AppendZerosOnto
import Derived.Lib.Overlaps
import Derived.Deep.RegionLaw
import Derived.Laws.NewBlocks
import Derived.Laws.MakeOwn
namespace Go.Proofs.YtnedafiokmjkkaaGreatDoor
open Tryz
set_option maxRecDepth 1000000
set_option maxHeartbeats 8000000
set_option linter.defProp false
attribute [simp] Value.oneCell'
abbrev Bb (n:Int):Value:=.int .i64 n
abbrev Bc:Value:=.slice none 0 0
abbrev Bd (w:World):=RowKit.Below w.heap.size w
abbrev Be (b o:Nat):Value:=.pointer (some ⟨b,o,none⟩)
abbrev Bg:=List (BitVec 8)
def Bh:=@Nat.le_trans
def Bi:=@Go.RowKit.Below.refl
def Bj:=@Nat.le_refl
def Bk:=@List.getElem?_eq_getElem
def Bl:=@congrArg
def Bm:=@List.getElem?_eq_some_iff
def Bn:=@List.mem_of_getElem?
def Bo:=@List.mem_cons
def Bq:=@Nat.zero_add
def Bp:=@List.length_map
def Br:=@Nat.lt_of_lt_of_le
def Bs:=@List.length_append
def Bt:=@List.getElem?_map
def Bu:=@Option.some.inj
def Bv:=@List.nil_append
def Bw:=@List.take_of_length_le
def Bz:=@List.mem_append
def By:=@List.cons_append
def BA:=@Go.DataW.trod_int
def BB:=@decide_eq_true
def BC:=@decide_eq_false
def BD:=@List.mem_map
def BE:=@List.getElem?_take
def BG:=@List.not_mem_nil
def BF:=@Go.bodyPost_ret
def BH:=@Nat.zero_le
def BI:=@Nat.add_zero
def BL:=@Go.getD_set_ne
def BJ:=@or_false
def BK:=@Nat.succ_mul
def BM:=@List.cons.injEq
def BR:=@decide_eq_true_eq
def BN:=@Array.getElem?_eq_some_iff
def BO:=@List.mem_singleton
def BP:=@Array.mk.injEq
def BQ:=@and_true
def Ca:=@Go.getD_replicate_false
def BW:=@Bool.and_eq_true
def BT:=@Go.heap_alloc_new
def BV:=@Go.setRow_other
def BS:=@List.drop_zero
def BY:=@Go.mem_ready
def BU:=@List.drop_succ_cons
def BZ:=@List.getElem?_set_ne
def BX:=@Go.Value.agg.injEq
def Cb:=@Go.DataW.trod_struct
def Cc:=@List.map_append
def Cd:=@Go.wpStill_nil
def Ce:=@Go.IntKind.wrap_i64
def Cf:=@List.mem_filter
def Cg:=@List.mem_range
def Cq:=@Go.heap_setCell_other
def Ci:=@Go.info_parts
def Cj:=@List.mem_cons_self
def Ck:=@List.append_assoc
def Cm:=@Go.setRow_heap
def Co:=@List.getElem?_drop
def Cp:=@List.filter_eq_nil_iff
def Cr:=@List.mem_cons_of_mem
def Cs:=@List.drop_eq_getElem_cons
def Ct:=@Nat.mul_le_mul_right
def Cu:=@forall_eq_or_imp
def CB:=@Go.wpOp_mono
def Cv:=@Nat.mod_eq_of_lt
def Cw:=@List.getElem?_append_left
def Cx:=@List.take_succ_eq_append_getElem
def Cy:=@List.length_cons
def Cz:=@Go.Sem.run_bind
def CA:=@Nat.mul_comm
def CC:=@List.getD_eq_getElem?_getD
def CD:=@Go.cell_of_row
def CE:=@List.length_eq_zero_iff
def CF:=@Go.block_lt_of_cell
def CG:=@Go.Sem.run_pure
def CH:=@Go.Result.andThen_ok
def CI:=@List.map_cons
def CJ:=@List.flatten_cons
def CK:=@List.drop_eq_nil_of_le
def CP:=@List.ext_getElem?
def CL:=@List.take_zero
def CM:=@Nat.mul_le_mul
def CN:=@List.pairwise_cons
def CO:=@forall_eq
def CQ:=@Nat.mod_lt
def CR:=@Nat.zero_mul
def CS:=@List.take_append_drop
def CT:=@List.filter_eq_self
def CU:=@List.take_add_one
def CV:=@Go.World.cells?_some
def CW:=@Go.wpList_plain
def CX:=@List.flatten_append
def CY:=@List.getElem?_append_right
def Dc:=@Go.wpList_store_row
def CZ:=@List.append_nil
def C0:=@Nat.add_mul
def C1:=@Nat.one_mul
def C2:=@List.length_take
def C3:=@Go.World.ownsRow.lt
def C4:=@Option.some.injEq
def C5:=@List.length_set
def C6:=@Array.getD_eq_getD_getElem?
def C8:=@Go.DataW.trod_string
def C9:=@List.all_eq_true
def Da:=@Nat.add_assoc
def Db:=@Go.World.ownsRow_nil
def Dh:=@List.getElem?_of_mem
def De:=@List.map_set
def Dd:=@List.set_append_right
def Df:=@List.length_drop
def Di:=@Bool.eq_iff_iff
def Dj:=@List.mem_or_eq_of_mem_set
def Dy:=@List.getElem?_set_self
def Dk:=@Array.getElem?_setIfInBounds_self_of_lt
def Dl:=@of_decide_eq_false
def Dm:=@Nat.mul_one
def Dn:=@Array.getElem?_toList
def Dp:=@Go.run_underlying
def Dq:=@List.take_succ_cons
def Dr:=@List.getElem?_eq_none
def Dt:=@List.mem_of_mem_drop
def Du:=@Go.grownCap_ge
def Dv:=@Go.size_zeroCells
def Dw:=@List.getElem_of_mem
def Dx:=@Go.Addr.mk.injEq
def Dz:=@Go.Value.agg.inj
def DA:=@BitVec.eq_of_toNat_eq
def DB:=@List.map_nil
def DC:=@Nat.add_sub_cancel
def DD:=@List.take_append_of_le_length
def DE:=@Nat.sub_self
def DM:=@Go.RowKit.Below.heap_setCell
def DL:=@List.mem_of_mem_take
def DF:=@Go.IntKind.wrap_u8'
def Ds:=@Nat.le_of_eq
def DG:=@Nat.pow_succ
def DH:=@Go.Value.slice.injEq
def DI:=@Nat.min_eq_left
def DJ:=@Go.grownCap_le_maxLen
def DK:=@Array.toList_append
def DN:=@Go.Oper.upon_enter
def DO:=@Int.not_lt
def DP:=@Nat.lt_trans
def DQ:=@List.filter_append
def DR:=@List.length_reverse
def DS:=@Bool.false_eq_true
def DT:=@Go.DataW.trod_bool
def DU:=@Bool.or_eq_true
def DV:=@List.take_append
def DW:=@List.map_toArray
def DX:=@List.drop_append
def D3:=@List.pairwise_append
def DY:=@List.drop_append_of_le_length
def DZ:=@List.drop_drop
def D0:=@Nat.mul_assoc
def D1:=@decide_eq_true_iff
def D2:=@Array.length_toList
def D4:=@List.size_toArray
def D5:=@Go.World.size_alloc
def D6:=@List.filter_cons
def D7:=@Go.run_string_add_sum
def D8:=@Go.Value.tuple.injEq
def D9:=@Go.World.cell?_of_block
def Ea:=@Go.wpList_append_own
def Eb:=@Go.run_sliceAt_slice
def Ee:=@List.pairwise_iff_getElem
def Ef:=@List.getElem?_set
def Ec:=@Nat.two_pow_add_eq_or_of_lt
def Ed:=@Go.run_callFunc_extern
def Eg:=@Nat.lt_trichotomy
def Eh:=@Int.toNat_natCast
def Ei:=@Array.size_append
def Ej:=@Array.size_replicate
def Ek:=@Go.IntKind.wrap_u64
def El:=@Go.World.drewN_drewN
def Ep:=@List.pairwise_singleton
def Em:=@List.drop_of_length_le
def En:=@List.getElem?_cons_zero
def Eo:=@Go.Lib.wpList_append_run
def Eq:=@List.reverse_singleton
def Er:=@List.singleton_append
def Es:=@Array.size_setIfInBounds
set_option linter.defProp true
def u (x:BitVec 32):Int:=(x.toNat:Int)
def b8 (x:BitVec 8):Int:=(x.toNat:Int)
theorem QuJ (x:BitVec 8):0≤b8 x:=by unfold b8;omega
theorem QuI (x:BitVec 8):b8 x<256:=by unfold b8;have:=x.isLt;omega
theorem Qq8 {x y:BitVec 8} (h:b8 x=b8 y):x=y:=by
  unfold b8 at h;exact DA (by omega)
theorem Qbs (x:BitVec 32):BitVec.ofInt 32 (u x)=x:=by
  unfold u;apply DA;rw [ofInt_u32 _ x.isLt]
theorem Qa7 (n:Nat):IntKind.u32.wrap (n:Int)=((n % 4294967296:Nat):Int):=by
  rw [IntKind.wrap_u32'];omega
theorem Qgm (x y:BitVec 32):bits .xor .u32 (u x) (u y)=u (x ^^^ y):=by
  show IntKind.u32.wrap ((BitVec.ofInt 32 _ ^^^ BitVec.ofInt 32 _).toNat:Int)=_
  rw [Qbs,Qbs,Qa7,Cv (by omega)];rfl
theorem QmF (x y:BitVec 32):bits .and .u32 (u x) (u y)=u (x &&& y):=by
  show IntKind.u32.wrap ((BitVec.ofInt 32 _ &&& BitVec.ofInt 32 _).toNat:Int)=_
  rw [Qbs,Qbs,Qa7,Cv (by omega)];rfl
theorem Qoe (x y:BitVec 32):bits .or .u32 (u x) (u y)=u (x ||| y):=by
  show IntKind.u32.wrap ((BitVec.ofInt 32 _ ||| BitVec.ofInt 32 _).toNat:Int)=_
  rw [Qbs,Qbs,Qa7,Cv (by omega)];rfl
theorem Qdf (x y:BitVec 32):bits .andNot .u32 (u x) (u y)=u (x &&& ~~~y):=by
  show IntKind.u32.wrap ((BitVec.ofInt 32 _ &&& ~~~BitVec.ofInt 32 _).toNat:Int)=_
  rw [Qbs,Qbs,Qa7,Cv (by omega)];rfl
theorem Qtg (x:BitVec 32):bits .xor .u32 IntKind.u32.max (u x)=u (~~~x):=by
  have h:IntKind.u32.max=u (BitVec.allOnes 32):=by decide
  rw [h,Qgm,BitVec.xor_comm]
  congr 1
  exact BitVec.xor_allOnes
theorem Qii (x y:BitVec 32):IntKind.u32.wrap (u x+u y)=u (x+y):=by
  rfl
theorem QfO (x y:BitVec 32):(u x+u y) % 4294967296=u (x+y):=by
  rw [← Qii,IntKind.wrap_u32']
theorem QjU (x:BitVec 32) (k:Nat):u x / 2 ^ k=u (x >>> k):=by
  unfold u;rw [BitVec.toNat_ushiftRight,Nat.shiftRight_eq_div_pow];simp
theorem QoX (x:BitVec 32) (k:Nat):u x*2 ^ k % 4294967296=u (x <<< k):=by
  unfold u;have:(x.toNat:Int)*2 ^ k=((x.toNat*2 ^ k:Nat):Int):=by simp
  rw [this,BitVec.toNat_shiftLeft,Nat.shiftLeft_eq];omega
theorem Qth (x:BitVec 32):u x / (8:Int)=u (x >>> 3):=QjU x 3
theorem QoY (x:BitVec 32):u x / (1024:Int)=u (x >>> 10):=QjU x 10
theorem Quz (x:BitVec 32):u x*(16777216:Int) % (4294967296:Int)=u (x <<< 24):=QoX x 24
theorem Quy (x:BitVec 32):u x*(65536:Int) % (4294967296:Int)=u (x <<< 16):=QoX x 16
theorem Qvk (x:BitVec 32):u x*(256:Int) % (4294967296:Int)=u (x <<< 8):=QoX x 8
theorem Qvj (x:BitVec 8):u (x.setWidth 32)=b8 x:=by
  unfold u b8;rw [BitVec.toNat_setWidth,Cv (by have:=x.isLt;omega)]
theorem Qo5 (x:BitVec 8):IntKind.u32.wrap (b8 x)=u (x.setWidth 32):=by
  rw [Qvj,IntKind.wrap_u32'];have:=QuJ x;have:=QuI x;omega
theorem QsP (n:Nat) (h0:0<n) (hn:n<32):bits .and .u64 (IntKind.u64.wrap (-(n:Int))) 31=((32-n:Nat):Int):=by
  have e:IntKind.u64.wrap (-(n:Int))=((18446744073709551616-n:Nat):Int):=by
    simp [IntKind.wrap,IntKind.bits,IntKind.signed];omega
  rw [e,show (31:Int)=((31:Nat):Int) from rfl,u64_and_nat _ _ (by omega) (by omega),nat_mask5]
  omega
def QdB (x:BitVec 32) (n:Nat):BitVec 32:=x <<< (32-n) ||| x >>> n
def bS1 (x:BitVec 32):=QdB x 6 ^^^ QdB x 11 ^^^ QdB x 25
def bS0 (x:BitVec 32):=QdB x 2 ^^^ QdB x 13 ^^^ QdB x 22
def sS1 (x:BitVec 32):=QdB x 17 ^^^ QdB x 19 ^^^ (x >>> 10)
def sS0 (x:BitVec 32):=QdB x 7 ^^^ QdB x 18 ^^^ (x >>> 3)
def chs (e f g:BitVec 32):BitVec 32:=(e &&& f) ^^^ (~~~e &&& g)
def maj (a b c:BitVec 32):BitVec 32:=(a &&& b) ^^^ (a &&& c) ^^^ (b &&& c)
def QpQ:List (BitVec 32):=[
  0x428a2f98,0x71374491,0xb5c0fbcf,0xe9b5dba5,0x3956c25b,0x59f111f1,0x923f82a4,0xab1c5ed5,
  0xd807aa98,0x12835b01,0x243185be,0x550c7dc3,0x72be5d74,0x80deb1fe,0x9bdc06a7,0xc19bf174,
  0xe49b69c1,0xefbe4786,0x0fc19dc6,0x240ca1cc,0x2de92c6f,0x4a7484aa,0x5cb0a9dc,0x76f988da,
  0x983e5152,0xa831c66d,0xb00327c8,0xbf597fc7,0xc6e00bf3,0xd5a79147,0x06ca6351,0x14292967,
  0x27b70a85,0x2e1b2138,0x4d2c6dfc,0x53380d13,0x650a7354,0x766a0abb,0x81c2c92e,0x92722c85,
  0xa2bfe8a1,0xa81a664b,0xc24b8b70,0xc76c51a3,0xd192e819,0xd6990624,0xf40e3585,0x106aa070,
  0x19a4c116,0x1e376c08,0x2748774c,0x34b0bcb5,0x391c0cb3,0x4ed8aa4a,0x5b9cca4f,0x682e6ff3,
  0x748f82ee,0x78a5636f,0x84c87814,0x8cc70208,0x90befffa,0xa4506ceb,0xbef9a3f7,0xc67178f2]
structure Oct where
  a:BitVec 32
  b:BitVec 32
  c:BitVec 32
  d:BitVec 32
  e:BitVec 32
  f:BitVec 32
  g:BitVec 32
  h:BitVec 32
def Oct.list (s:Oct):List (BitVec 32):=[s.a,s.b,s.c,s.d,s.e,s.f,s.g,s.h]
def Oct.plus (s t:Oct):Oct:=⟨s.a+t.a,s.b+t.b,s.c+t.c,s.d+t.d,s.e+t.e,s.f+t.f,s.g+t.g,s.h+t.h⟩
def QeO:Oct:=⟨0x6a09e667,0xbb67ae85,0x3c6ef372,0xa54ff53a,0x510e527f,0x9b05688c,0x1f83d9ab,0x5be0cd19⟩
def be4 (a b c d:BitVec 8):BitVec 32:=a.setWidth 32 <<< 24 ||| b.setWidth 32 <<< 16 ||| c.setWidth 32 <<< 8 ||| d.setWidth 32
def QmI (blk:Bg) (i:Nat) (l:List (BitVec 32)):BitVec 32 :=
  if i<16 then be4 (blk.getD (4*i) 0) (blk.getD (4*i+1) 0) (blk.getD (4*i+2) 0) (blk.getD (4*i+3) 0)
  else sS1 (l.getD (i-2) 0)+l.getD (i-7) 0+sS0 (l.getD (i-15) 0)+l.getD (i-16) 0
def wTo (blk:Bg):Nat→List (BitVec 32)
  | 0=>[]
  | i+1=>wTo blk i ++ [QmI blk i (wTo blk i)]
theorem YX (b:Bg) (i:Nat):(wTo b i).length=i:=by induction i <;> grind [wTo]
def step (k w:BitVec 32) (s:Oct):Oct :=
  let t1:=s.h+bS1 s.e+chs s.e s.f s.g+k+w
  let t2:=bS0 s.a+maj s.a s.b s.c
  ⟨t1+t2,s.a,s.b,s.c,s.d+t1,s.e,s.f,s.g⟩
def rTo (w:List (BitVec 32)) (s:Oct):Nat→Oct
  | 0=>s
  | t+1=>step (QpQ.getD t 0) (w.getD t 0) (rTo w s t)
def ZP (s:Oct) (blk:Bg):Oct:=s.plus (rTo (wTo blk 64) s 64)
def Yf:Nat→Oct→Bg→Oct
  | 0,s,_=>s
  | n+1,s,m=>Yf n (ZP s (m.take 64)) (m.drop 64)
def be8 (n:Nat):Bg :=
  [BitVec.ofNat 8 (n / 2 ^ 56),BitVec.ofNat 8 (n / 2 ^ 48),BitVec.ofNat 8 (n / 2 ^ 40),BitVec.ofNat 8 (n / 2 ^ 32),
   BitVec.ofNat 8 (n / 2 ^ 24),BitVec.ofNat 8 (n / 2 ^ 16),BitVec.ofNat 8 (n / 2 ^ 8),BitVec.ofNat 8 n]
def QjZ (n:Nat):Nat:=(119-n % 64) % 64
def Qek (m:Bg):Bg:=m ++ [128] ++ List.replicate (QjZ m.length) 0 ++ be8 (8*m.length)
def YG (x:BitVec 32):Bg:=[(x >>> 24).setWidth 8,(x >>> 16).setWidth 8,(x >>> 8).setWidth 8,x.setWidth 8]
def sha (m:Bg):Bg :=
  (Yf ((m.length+72) / 64) QeO (Qek m)).list.flatMap YG
theorem QQ (m:Bg):(sha m).length=32:=by
  simp [sha,Oct.list,YG]
section
variable {P:Program} {ops:Array Oper} {md:Region.Mode} {C:World→Prop}
def Qfd (md:Region.Mode) (ops:Array Oper) (m n:Nat):Bool :=
  (List.range n).all fun i=>decide (i<m) || (List.range (n+1)).any fun j=>decide (i<j) && Region.waitsFor md ops j i
theorem QiP {m n i:Nat} (hs:Qfd md ops m n=true) (hm:m≤i) (hi:i<n):∃ j oj,i<j∧j≤n∧ops[j]?=some oj∧∃ e∈oj.after,Region.binds md e=true∧e.on=i:=by
  have h1:=C9.1 hs i (Cg.2 hi);simp only [DU,BR] at h1
  rcases h1 with h1 | h1
  · omega
  · obtain ⟨j,hj,b⟩:=List.any_eq_true.1 h1
    simp only [BW,BR] at b;obtain ⟨oj,d,e,he,hb,q⟩:=Region.waitsFor_spec b.2;exact ⟨j,oj,b.1,by have:=Cg.1 hj;omega,d,e,he,hb,q⟩
theorem Qol {m n:Nat} {s:Array Bool} (hs:Qfd md ops m n=true) (hc:Region.chainB md ops n=true) (hn:n<ops.size) (z:HeadInv md ops n s) (d:Nat) :
    ∀ i,n-i=d→m≤i→i<n→s.getD i true=false→∀ t,n≤t→t ∉ Region.ready md ops s:=by
  induction d using Nat.strongRecOn with
  | _ d ih =>
    intro i hd E hi M t ht hr;obtain ⟨_,ot,C,A⟩:=BY.1 hr;have D:t<ops.size:=(BN.1 C).1
    by_cases L:t=n
    · subst L
      obtain ⟨j,oj,hij,hjt,I,e,he,hb,b⟩:=QiP hs E hi
      by_cases q:j=t
      · grind
      · cases hl:s.getD j false with
        | true =>
          have h2:=z.closed j oj I hl e he hb;rw [b,getD_both M] at h2
          cases h2
        | false=>exact ih (t-j) (by omega) j rfl (by omega) (by omega) (getD_in (by rw [z.size];omega) hl) t (by omega) hr
    · have h1:=C9.1 hc t (Cg.2 D)
      simp only [DU,BR] at h1
      rcases h1 with h1 | h1
      · omega
      · obtain ⟨o',G,e,he,hb,b⟩:=Region.waitsFor_spec h1
        obtain rfl:o'=ot:=Bu (G.symm.trans C);have h2:=A e he hb;rw [b,getD_both (z.tail (t-1) (by omega) (by omega))] at h2
        cases h2
end
open Go.RowKit
theorem getD_some {α:Type} (l:List α) (i:Nat) (d:α) (h:i<l.length):l[i]?=some (l.getD i d):=by simp [h]
theorem hid {p:Prop} (h:p):Hid p:=h
theorem JE {P:Program} {id:Nat} {Q:Exit→Act→World→Prop} {a:Act} {w:World} {l:List Oper} (hm:P.follows .mixedOrders=true) (hB:Region.lexB .any l.toArray=true)
    (h:wpStill P l.toArray w.drew (fun a'=>Q .normal a' w.drew) l a):(Code.region id l.toArray true).wp P Q a w:=wp_region_still_lit hm hB h
theorem YU {P:Program} {id:Nat} {Q:Exit→Act→World→Prop} {a:Act} {w:World} {l:List Oper} (n:Nat) (hm:P.follows .mixedOrders=true) (hB:Region.lexTailB .any l.toArray n=true)
    (h:wpStill P l.toArray w.drew (fun a'=>wpList P l.toArray Q (l.drop n) a' w.drew) (l.take n) a):(Code.region id l.toArray true).wp P Q a w:=wp_region_still_tail n hm hB h
theorem QcX {w w':World} {r:Option Nat} (h:Bd w w'):w.grownBy w' r:=⟨h.os,h.tape,h.output,h.size,fun k hk _=>h.block k hk⟩
theorem Qo {w w1 w2:World} {r:Option Nat} (h:w.grownBy w1 r) (k:w1.grownBy w2 r):w.grownBy w2 r :=
  ⟨k.os.trans h.os,k.tape.trans h.tape,k.output.trans h.output,Bh h.size k.size,fun i hi hr=>(k.block i (Br hi h.size) hr).trans (h.block i hi hr)⟩
theorem YD (w:World) (g i:Nat) (v:Value):w.grownBy (w.setCell ⟨g,i,none⟩ v) (some g) :=
  ⟨rfl,rfl,rfl,by simp,fun j _ b=>Cq _ _ _ _ (fun e=>b (by rw [e]))⟩
theorem YQ (w:World) (r:Option Nat):w.grownBy w r:=⟨rfl,rfl,rfl,Bj _,fun _ _ _=>rfl⟩
theorem ZV {w w':World} {r:Option Nat} (h:w.grownBy w' r):w.grownBy w'.drew r:=⟨h.os,h.tape,h.output,h.size,h.block⟩
theorem Qi9 (w:World) (l:List Value) (t:TypeId):∀ (j:Nat) (x:Value),l[j]?=some x→(w.alloc (.cells l.toArray t)).cell? ((⟨w.heap.size,0,none⟩:Addr).add j)=some x:=by
  intro j x h;have b:(⟨w.heap.size,0,none⟩:Addr).add j=⟨w.heap.size,j,none⟩:=by unfold Addr.add;split <;> simp_all
  rw [b,CD _ _ _ _ _ _ (BT w _)];simpa using h
def U (x:BitVec 32):Value:=.int .u32 (u x)
def V (x:BitVec 8):Value:=.int .u8 (b8 x)
def ZY (n:Nat) (l:List (BitVec 32)):List Value:=l.map U ++ List.replicate (n-l.length) (.int .u32 0)
theorem Qmh (n:Nat) (l:List (BitVec 32)) (h:l.length≤n):(ZY n l).length=n:=by grind [ZY]
theorem Qfb (n:Nat) (l:List (BitVec 32)) (i:Nat) (h:i<l.length):(ZY n l)[i]?=some (.int .u32 (u (l.getD i 0))):=by
  unfold ZY;rw [Cw (by simpa using h)]
  simp [h,U]
theorem QjM (n:Nat) (l:List (BitVec 32)) (i:Nat) (hl:l.length≤n) (h:i<n):∃ v,(ZY n l)[i]?=some v:=by
  have:=Qmh n l hl;exact ⟨_,Bk (by omega)⟩
theorem QsR (n:Nat) (l:List (BitVec 32)) (x:BitVec 32) (h:l.length<n):(ZY n l).set l.length (U x)=ZY n (l ++ [x]):=by
  unfold ZY;have e:n-l.length=(n-(l ++ [x]).length)+1:=by grind
  rw [e];simp [List.replicate_succ]
theorem QqB (l:List (BitVec 32)):ZY l.length l=l.map U:=by simp [ZY]
def Row (w:World) (g:Nat) (t:TypeId) (cs:List Value):Prop:=w.heap[g]?=some (.cells cs.toArray t (0,0))
theorem Row.cell {w:World} {g:Nat} {t:TypeId} {cs:List Value} (h:Row w g t cs) (i:Nat):w.cell? ⟨g,i,none⟩=cs[i]?:=by
  rw [CD w g i _ t _ h];simp
theorem Row.frozen {w:World} {g:Nat} {t:TypeId} {cs:List Value} (h:Row w g t cs) (i:Nat):w.frozen? ⟨g,i,none⟩=false :=
  frozen_of_row w g i _ t h
theorem Row.lt {w:World} {g:Nat} {t:TypeId} {cs:List Value} (h:Row w g t cs):g<w.heap.size:=by grind [Row]
theorem Row.set {w:World} {g:Nat} {t:TypeId} {cs:List Value} (h:Row w g t cs) (i:Nat) (v:Value):Row (w.setCell ⟨g,i,none⟩ v) g t (cs.set i v):=by
  unfold Row;rw [heap_setCell_same w g i _ t v h];simp
theorem Row.other {w:World} {g:Nat} {t:TypeId} {cs:List Value} (h:Row w g t cs) {a:Addr} (v:Value) (b:g≠a.block):Row (w.setCell a v) g t cs:=by
  unfold Row;rw [Cq _ _ _ _ b];exact h
theorem Row.drewN {w:World} {g:Nat} {t:TypeId} {cs:List Value} (h:Row w g t cs) (n:Nat):Row (w.drewN n) g t cs:=h
theorem Row.drew {w:World} {g:Nat} {t:TypeId} {cs:List Value} (h:Row w g t cs):Row w.drew g t cs:=h
theorem Row.grown {w w':World} {g:Nat} {t:TypeId} {cs:List Value} (h:Row w g t cs) {r:Option Nat} (hg:w.grownBy w' r) (b:some g≠r):Row w' g t cs:=by
  unfold Row;rw [hg.block g h.lt b];exact h
theorem Row.below {w w':World} {g B:Nat} {t:TypeId} {cs:List Value} (h:Row w g t cs) (hg:Below B w w') (hB:g<B):Row w' g t cs:=by
  unfold Row;rw [hg.block g hB];exact h
theorem Row.alloc {w:World} {g:Nat} {t:TypeId} {cs:List Value} (h:Row w g t cs) (o:Obj):Row (w.alloc o) g t cs:=by
  exact (Below.heap_alloc w o g h.lt).trans h
theorem Row.new (w:World) (t:TypeId) (cs:List Value):Row (w.alloc (.cells cs.toArray t)) w.heap.size t cs:=BT _ _
theorem Row.newAt (w:World) (t:TypeId) (cs:List Value) (g:Nat) (h:g=w.heap.size):Row (w.alloc (.cells cs.toArray t)) g t cs:=by subst h;exact BT _ _
def Bytes (w:World) (N:Nat) (sv:Value) (l:Bg):Prop :=
  (sv=Bc∧l=[])∨(∃ a cap,sv=.slice (some a) 0 cap∧l=[])∨∃ b off cap,sv=.slice (some ⟨b,off,none⟩) l.length cap∧l.length≤cap∧∀ i,i<l.length→b<N∧w.cell? ⟨b,off+i,none⟩=some (.int .u8 (b8 (l.getD i 0)))
theorem Bytes.grown {w w':World} {N B:Nat} {sv:Value} {l:Bg} (h:Bytes w N sv l) (hg:w.grownBy w' (some B)) (hN:N≤B) (hw:N≤w.heap.size):Bytes w' N sv l:=by
  rcases h with h | h | ⟨b,off,cap,h1,h2,h3⟩
  · exact .inl h
  · exact .inr (.inl h)
  · refine .inr (.inr ⟨b,off,cap,h1,h2,fun i hi=>⟨(h3 i hi).1,?_⟩⟩)
    have:=(h3 i hi).1;rw [← (h3 i hi).2];exact D9 (hg.block b (by omega) (by simp;omega))
theorem Bytes.below {w w':World} {N:Nat} {sv:Value} {l:Bg} (h:Bytes w N sv l) (hg:Below N w w'):Bytes w' N sv l:=by
  rcases h with h | h | ⟨b,off,cap,h1,h2,h3⟩
  · exact .inl h
  · exact .inr (.inl h)
  · refine .inr (.inr ⟨b,off,cap,h1,h2,fun i hi=>⟨(h3 i hi).1,?_⟩⟩)
    rw [← (h3 i hi).2];exact hg.cell (h3 i hi).1
theorem Bytes.mono {w:World} {N M:Nat} {sv:Value} {l:Bg} (h:Bytes w N sv l) (hN:N≤M):Bytes w M sv l:=by grind [Bytes]
theorem Bytes.tail {w:World} {N:Nat} {l:Bg} (b e d n:Nat) (hn:n≤l.length) (hc:l.length≤d)
    (h:∀ i,i<l.length→b<N∧w.cell? ⟨b,e+i,none⟩=some (.int .u8 (b8 (l.getD i 0)))) :
    Bytes w N (.slice (some ⟨b,e+n,none⟩) (l.length-n) (d-n)) (l.drop n):=by
  refine .inr (.inr ⟨b,e+n,d-n,by simp,by simp;omega,fun i hi=>?_⟩)
  simp at hi;have:=h (n+i) (by omega)
  refine ⟨this.1,?_⟩;rw [Da,this.2];simp
theorem Bytes.shape {w:World} {N:Nat} {sv:Value} {l:Bg} (h:Bytes w N sv l):∃ oa b,sv=.slice oa l.length b∧l.length≤b:=by grind [Bytes]
theorem Bytes.some {w:World} {N:Nat} {oa:Option Addr} {e:Nat} {l:Bg} (h:Bytes w N (.slice oa l.length e) l) (hl:0<l.length) :
    ∃ b d,oa=some ⟨b,d,none⟩∧∀ i,i<l.length→b<N∧w.cell? ⟨b,d+i,none⟩=some (.int .u8 (b8 (l.getD i 0))):=by
  rcases h with ⟨_,rfl⟩ | ⟨_,_,_,rfl⟩ | ⟨b,d,c,h1,_,h3⟩
  · simp at hl
  · simp at hl
  · simp at h1
    exact ⟨b,d,h1.1,h3⟩
def lenOf:Value→Nat
  | .slice _ n _=>n
  | _=>0
theorem QdT {w:World} {base n:Nat} {v:Value} {l:Bg} (h:w.ownsRow base 5 1 v n (l.map V)):Bytes w w.heap.size v l:=by
  obtain ⟨h1,h2⟩:=h;have hl:l.length=n:=by simpa using h1
  subst hl
  rcases h2 with ⟨rfl,h3⟩ | ⟨g,d,b,rfl,_,hg,hn,_,hc,hx⟩
  · exact .inl ⟨rfl,CE.1 h3⟩
  · refine .inr (.inr ⟨g,0,d,rfl,hn,fun i hi=>⟨(BN.1 hg).1,?_⟩⟩)
    rw [Bq,CD w g i b _ _ hg];have h4:(b.toList.take (l.length*1))[i]?=(l.map V)[i]?:=by rw [hx]
    rw [Dm,BE,if_pos hi] at h4;rw [← Dn,h4,Bt,getD_some l i 0 hi];rfl
theorem Qb0 {w:World} {N:Nat} {x:Value} {l:Bg} (h:Bytes w N x l) :
    (x=Bc∧l=[])∨∃ ad d,x=.slice (some ad) l.length d∧∀ j v,(l.map V)[j]?=some v→w.cell? (ad.add j)=some v:=by
  rcases h with h | ⟨a,d,rfl,rfl⟩ | ⟨b,off,d,rfl,_,hc⟩
  · exact .inl h
  · exact .inr ⟨a,d,rfl,fun j v hv=>by simp at hv⟩
  · refine .inr ⟨_,d,rfl,fun j v hv=>?_⟩
    have hj:j<l.length:=by have:=(Bm.1 hv).1;simpa using this
    have e:(⟨b,off,none⟩:Addr).add j=⟨b,off+j,none⟩:=by unfold Addr.add;split <;> simp_all
    rw [e,(hc j hj).2,← hv,Bt,getD_some l j 0 hj];rfl
theorem QdU {w:World} {base e n:Nat} {v:Value} {xs:List Value} (h:w.ownsRow base e 1 v n xs):∃ oa b,v=.slice oa n b∧n≤b ∧
    (0<n→∃ g,oa=some ⟨g,0,none⟩∧base≤g∧g<w.heap.size∧∀ j,j<n→w.cell? ⟨g,j,none⟩=xs[j]?∧w.frozen? ⟨g,j,none⟩=false):=by
  obtain ⟨h1,h2⟩:=h
  rcases h2 with ⟨rfl,rfl⟩ | ⟨g,b,d,rfl,hb,hg,hc,_,hs,hx⟩
  · simp
  · refine ⟨_,b,rfl,hc,fun _=>⟨g,rfl,hb,(BN.1 hg).1,fun j hj=>⟨?_,frozen_of_row w g j d e hg⟩⟩⟩
    rw [CD w g j d _ _ hg,← hx,Dm,BE,if_pos hj,Dn]
theorem ZT (w:World) (l:Bg) (t:TypeId) (fr:Nat×Nat) (b:Nat) (hc:l.length≤b):Bytes (w.alloc (.cells (l.map V).toArray t fr)) (w.heap.size+1) (.slice (some ⟨w.heap.size,0,none⟩) l.length b) l:=by
  refine .inr (.inr ⟨w.heap.size,0,b,rfl,hc,fun i hi=>⟨by omega,?_⟩⟩)
  rw [CD _ _ _ _ _ _ (BT w _),Bq];simp only [List.getElem?_toArray,Bt];rw [getD_some l i 0 hi];rfl
theorem Qdt:(prog.info? 5).map (fun i=>(i.zero,i.size,i.bytes))=some (some (.int .u8 0),1,1):=by kernel_rfl
theorem QdC {q:Array Oper} {rest:List Oper} {o:Oper} {a:Act} {w:World} {Q:Exit→Act→World→Prop} (e:o.guard=none) (s x:Operand)
    (ho:o.op=.call { callee:=.builtin .append,args:=#[s,x],argTypes:=#[29,29] })
    (base:Nat) (v:Value) (n:Nat) (xs:List Value) (hs:a.eval s=v) (b:w.ownsRow base 5 1 v n xs) (sv:Value) (l:Bg) (hx:a.eval x=sv) {N:Nat} (hb:Bytes w N sv l)
    (hle:n+l.length≤140737488355328) (d:base≤w.heap.size)
    (h:∀ v' w',w'.ownsRow base 5 1 v' (n+l.length) (xs ++ l.map V)→Below base w w'→wpList prog q Q rest (a.put o.dst v') w'):wpList prog q Q (o :: rest) a w:=by
  obtain ⟨i0,j,C,D,E⟩:=Ci Qdt
  rcases Qb0 hb with ⟨rfl,rfl⟩ | ⟨ad,A,rfl,m⟩
  · refine wpList_append_own_none e s x 29 ho base 5 i0 1 underlying29 j v n xs hs b hx ?_
    exact h v w (by simpa using b) (Bi _ _)
  · refine Ea w e s x 29 ho base 5 i0 (.int .u8 0) 1 1 underlying29 j C D E rfl (by decide) v n xs hs b ad l.length A (l.map V) hx (by simp) m
      (fun y hy=>by obtain ⟨z,_,rfl⟩:=BD.1 hy;rfl) (by unfold maxLen;omega) (by omega) d ?_
    intro v' w' h1 h2 _;exact h v' w' h1 ((Bi base w).grown h2 d (fun k hk=>(b.lt k hk).1))
def Jl (w w':World):Prop:=∀ (k:Nat) (cs:Array Value) (t:TypeId) (fr:Nat×Nat),w.heap[k]?=some (.cells cs t fr)→t≠5→w'.heap[k]?=w.heap[k]?
theorem Jl.refl (w:World):Jl w w:=by simp [Jl]
theorem Jl.trans {w w1 w2:World} (h:Jl w w1) (k:Jl w1 w2):Jl w w2:=by grind [Jl]
theorem Jl.alloc (w:World) (o:Obj):Jl w (w.alloc o):=fun k _ _ _ hk _=>Below.heap_alloc w o k (BN.1 hk).1
theorem Jl.drewN {w w':World} (h:Jl w w') (n:Nat):Jl w (w'.drewN n):=h
theorem Jl.row {w w':World} (h:Jl w w') {g:Nat} {t:TypeId} {cs:List Value} (hr:Row w g t cs) (ht:t≠5):Row w' g t cs:=by grind [Jl,Row]
def Qq (w:World) (base:Nat) (v:Value) (l:Bg):Prop:=w.ownsRow base 5 1 v l.length (l.map V)
theorem Qq.nil (w:World) (base:Nat):Qq w base (Bc) []:=Db w base 5 1
theorem Qq.bytes {w:World} {base:Nat} {v:Value} {l:Bg} (h:Qq w base v l):Bytes w w.heap.size v l:=QdT h
theorem Qq.keep {w w':World} {base:Nat} {v:Value} {l:Bg} (h:Qq w base v l) (hk:∀ g,base≤g→w'.heap[g]?=w.heap[g]?):Qq w' base v l:=by
  obtain ⟨h1,h2⟩:=h;refine ⟨h1,?_⟩
  rcases h2 with h2 | ⟨g,cap,cur,h3,h4,h5,h6⟩
  · simp_all
  · exact .inr ⟨g,cap,cur,h3,h4,(hk g h4).trans h5,h6⟩
theorem Qq.mono {w:World} {base base':Nat} {v:Value} {l:Bg} (h:Qq w base v l) (hb:base'≤base):Qq w base' v l:=by
  obtain ⟨h1,h2⟩:=h;refine ⟨h1,?_⟩
  rcases h2 with h2 | ⟨g,cap,cur,h3,h4,h5⟩
  · simp_all
  · exact .inr ⟨g,cap,cur,h3,Bh hb h4,h5⟩
theorem Qq.shape {w:World} {base:Nat} {v:Value} {l:Bg} (h:Qq w base v l):∃ oa b,v=.slice oa l.length b∧l.length≤b:=by grind [Qq,QdU]
theorem Qq.alloc {w:World} {base:Nat} {v:Value} {l:Bg} (h:Qq w base v l) (o:Obj):Qq (w.alloc o) base v l:=World.ownsRow.alloc h _
theorem Qq.drewN {w:World} {base:Nat} {v:Value} {l:Bg} (h:Qq w base v l) (n:Nat):Qq (w.drewN n) base v l:=h
theorem Bytes.drewN {w:World} {N:Nat} {v:Value} {l:Bg} (h:Bytes w N v l) (n:Nat):Bytes (w.drewN n) N v l:=by assumption
theorem Qdm {o:Oper} {a:Act} {w:World} {K:Act→World→Prop} {Q:Exit→Act→World→Prop} (s x:Operand)
    (ho:o.op=.call { callee:=.builtin .append,args:=#[s,x],argTypes:=#[29,29] })
    (base:Nat) (v:Value) (m:Bg) (hs:a.eval s=v) (b:Qq w base v m) (sv:Value) (l:Bg) (hx:a.eval x=sv) {N:Nat} (hb:Bytes w N sv l)
    (hle:m.length+l.length≤140737488355328) (d:base≤w.heap.size)
    (h:∀ v' w',Qq w' base v' (m ++ l)→Below base w w'→Jl w w'→K (a.put o.dst v') w'):o.wp prog a w K Q:=by
  obtain ⟨i0,e,C,D,E⟩:=Ci Qdt
  rcases Qb0 hb with ⟨rfl,rfl⟩ | ⟨ad,A,rfl,q⟩
  · have j:=run_append_owned_none (P:=prog) (w:=w) base 29 o.type 5 i0 1 underlying29 e v m.length (m.map V) b
    unfold Oper.wp;simp [execOp,ho,resolve,invoke,builtin,hs,hx,j];exact h v w (by simpa using b) (Bi _ _) (Jl.refl _)
  · refine wp_append_own w s x 29 ho base 5 i0 (.int .u8 0) 1 1 underlying29 e C D E rfl (by decide) v m.length (m.map V) hs b ad l.length A (l.map V) hx (by simp) q
      (fun y hy=>by obtain ⟨z,_,rfl⟩:=BD.1 hy;rfl) (by unfold maxLen;omega) (by omega) d ?_
    intro v' w' h1 h2 _;refine h v' w' ?_ ((Bi base w).grown h2 d (fun k hk=>(b.lt k hk).1)) ?_
    · unfold Qq
      rw [Bs,Cc];exact h1
    · intro k cs t fr hk ht
      refine h2.block k (BN.1 hk).1 ?_;intro he;obtain ⟨_,h4⟩:=b
      rcases h4 with ⟨rfl,_⟩ | ⟨g,c,cur,rfl,_,hg,_⟩
      · simp [Value.ownBlock] at he
      · obtain rfl:k=g:=by simpa [Value.ownBlock] using he
        rw [hg] at hk;simp at hk;exact ht hk.2.1.symm
theorem JS {e:Array Oper} {rest:List Oper} {o:Oper} {a:Act} {w:World} {Q:Exit→Act→World→Prop} (j:o.guard=none) (s x:Operand)
    (ho:o.op=.call { callee:=.builtin .append,args:=#[s,x],argTypes:=#[29,29] })
    (base:Nat) (v:Value) (m:Bg) (hs:a.eval s=v) (d:Qq w base v m) (sv:Value) (l:Bg) (hx:a.eval x=sv) {N:Nat} (hb:Bytes w N sv l)
    (q:m.length+l.length≤140737488355328) (b:base≤w.heap.size)
    (h:∀ v' w',Qq w' base v' (m ++ l)→Below base w w'→Jl w w'→wpList prog e Q rest (a.put o.dst v') w'):wpList prog e Q (o :: rest) a w :=
  CW j fun _ hK=>Qdm s x ho base v m hs d sv l hx hb q b fun v' w' h1 h2 h3=>hK _ _ (h v' w' h1 h2 h3)
theorem QbU {e:Array Oper} {o:Oper} {a:Act} {w:World} {K:Act→World→Prop} {Q:Exit→Act→World→Prop} {E:Prop} (j:o.guard=none) (s x:Operand)
    (ho:o.op=.call { callee:=.builtin .append,args:=#[s,x],argTypes:=#[29,29] })
    (base:Nat) (v:Value) (m:Bg) (hs:a.eval s=v) (d:Qq w base v m) (sv:Value) (l:Bg) (hx:a.eval x=sv) {N:Nat} (hb:Bytes w N sv l)
    (q:m.length+l.length≤140737488355328) (b:base≤w.heap.size)
    (h:∀ v' w',Qq w' base v' (m ++ l)→Below base w w'→Jl w w'→K (a.put o.dst v') w'):if Region.wanted o (yielded e a.tmps)=true then Oper.wp prog o a w K Q else E:=by
  have hw:Region.wanted o (yielded e a.tmps)=true:=by simp [Region.wanted,j]
  rw [if_pos hw];exact Qdm s x ho base v m hs d sv l hx hb q b h
theorem Qbv {j:Array Oper} {rest:List Oper} {o:Oper} {a:Act} {wr:World} {Q:Exit→Act→World→Prop} (q:o.guard=none) (s x:Operand)
    (ho:o.op=.call { callee:=.builtin .append,args:=#[s,x],argTypes:=#[29,29] })
    (base:Nat) (v:Value) (m:Bg) (hs:a.eval s=v) (e:Qq wr base v m) (y:Int) (b:BitVec 8) (hy:y=b8 b) (hx:a.eval x=.slice (some ⟨wr.heap.size,0,none⟩) 1 1)
    (hl:m.length≤140737488355000) (d:base≤wr.heap.size)
    (h:∀ v' w',Qq w' base v' (m ++ [b])→Below base wr w'→Jl wr w'→wpList prog j Q rest (a.put o.dst v') w'):wpList prog j Q (o :: rest) a (wr.alloc (.cells #[.int .u8 y] 5)):=by
  subst hy;have hsz:(wr.alloc (.cells #[.int .u8 (b8 b)] 5)).heap.size=wr.heap.size+1:=by simp
  have hb:=ZT wr [b] 5 (0,0) 1 (by simp)
  refine JS q s x ho base v m hs (Qq.alloc e _) _ [b] hx hb (by simp;omega) (by omega) ?_
  intro v' w' h1 h2 h3;exact h v' w' h1 (((Bi base wr).alloc d _).trans h2) ((Jl.alloc _ _).trans h3)
def Jx (w:World) (N:Nat) (sv:Value) (ls:List Bg):Prop :=
  (sv=Bc∧ls=[])∨(∃ a cap,sv=.slice (some a) 0 cap∧ls=[])∨∃ b off cap,sv=.slice (some ⟨b,off,none⟩) ls.length cap∧ls.length≤cap ∧
    ∀ i,i<ls.length→b<N∧∃ x,w.cell? ⟨b,off+i,none⟩=some x∧Bytes w N x (ls.getD i [])
theorem Jx.shape {w:World} {N:Nat} {sv:Value} {ls:List Bg} (h:Jx w N sv ls):∃ oa b,sv=.slice oa ls.length b∧ls.length≤b:=by grind [Jx]
theorem Jx.some {w:World} {N:Nat} {oa:Option Addr} {e:Nat} {ls:List Bg} (h:Jx w N (.slice oa ls.length e) ls) (hl:0<ls.length) :
    ∃ b d,oa=some ⟨b,d,none⟩∧∀ i,i<ls.length→b<N∧∃ x,w.cell? ⟨b,d+i,none⟩=some x∧Bytes w N x (ls.getD i []):=by
  rcases h with ⟨_,rfl⟩ | ⟨_,_,_,rfl⟩ | ⟨b,d,c,h1,_,h3⟩
  · simp at hl
  · simp at hl
  · simp at h1
    exact ⟨b,d,h1.1,h3⟩
theorem Jx.below {w w':World} {N:Nat} {sv:Value} {ls:List Bg} (h:Jx w N sv ls) (hg:Below N w w'):Jx w' N sv ls:=by
  rcases h with h | h | ⟨b,off,cap,h1,h2,h3⟩
  · exact .inl h
  · exact .inr (.inl h)
  · refine .inr (.inr ⟨b,off,cap,h1,h2,fun i hi=>?_⟩)
    obtain ⟨h4,x,h5,h6⟩:=h3 i hi;exact ⟨h4,x,(hg.cell h4).trans h5,h6.below hg⟩
theorem ZB (ls:List Bg) (k:Nat) (h:k<ls.length):(ls.take (k+1)).flatten=(ls.take k).flatten ++ ls.getD k []:=by grind [List.take_succ_eq_append_getElem]
theorem Qar (ls:List Bg):∀ k,(ls.take k).flatten.length≤ls.flatten.length:=by
  induction ls with
  | nil=>intro k;simp
  | cons x r ih =>
    intro k
    cases k with
    | zero=>simp
    | succ k=>have:=ih k;simp at this ⊢;omega
theorem Qjy (w:World) (t:TypeId) (xs:List Value) (ls:List Bg) (h:∀ i,i<ls.length→∃ x,xs[i]?=some x∧Bytes w w.heap.size x (ls.getD i [])) :
    Jx (w.alloc (.cells xs.toArray t)) (w.heap.size+1) (.slice (some ⟨w.heap.size,0,none⟩) ls.length ls.length) ls:=by
  refine .inr (.inr ⟨w.heap.size,0,ls.length,rfl,Bj _,fun i hi=>⟨by omega,?_⟩⟩)
  obtain ⟨x,hx,hb⟩:=h i hi;refine ⟨x,?_,(hb.below ((Bi _ _).alloc (by omega) _)).mono (by omega)⟩
  simpa using hx
theorem Qny {w:World} {t:TypeId} {x y z:Value} {a b c:Bg} (hx:Bytes w w.heap.size x a) (hy:Bytes w w.heap.size y b) (hz:Bytes w w.heap.size z c):Jx (w.alloc (.cells #[x,y,z] t)) (w.heap.size+1) (.slice (some ⟨w.heap.size,0,none⟩) 3 3) [a,b,c] :=
  Qjy w t [x,y,z] [a,b,c] (fun i hi=>by
    obtain rfl | rfl | rfl:i=0∨i=1∨i=2:=by grind
    · simp_all
    · simp_all
    · exact ⟨z,rfl,hz⟩)
theorem QoG (a b c:Bg):[a,b,c].flatten=a ++ (b ++ c):=by simp
theorem Qu8 {w:World} {t:TypeId} {x y z u:Value} {a b c d:Bg} (hx:Bytes w w.heap.size x a) (hy:Bytes w w.heap.size y b) (hz:Bytes w w.heap.size z c) (hu:Bytes w w.heap.size u d):Jx (w.alloc (.cells #[x,y,z,u] t)) (w.heap.size+1) (.slice (some ⟨w.heap.size,0,none⟩) 4 4) [a,b,c,d] :=
  Qjy w t [x,y,z,u] [a,b,c,d] (fun i hi=>by
    obtain rfl | rfl | rfl | rfl:i=0∨i=1∨i=2∨i=3:=by grind
    · simp_all
    · simp_all
    · simp_all
    · exact ⟨u,rfl,hu⟩)
theorem QvK (a b c d:Bg):[a,b,c,d].flatten=a ++ (b ++ (c ++ d)):=by simp
theorem w64 (n:Nat) (h:n<18446744073709551616):IntKind.u64.wrap (n:Int)=(n:Int):=by
  simp [IntKind.wrap,IntKind.bits,IntKind.signed];omega
theorem Z7 (a b:Nat) (h:a*b<18446744073709551616):IntKind.u64.wrap ((a:Int)*(b:Int))=((a*b:Nat):Int):=by
  exact w64 _ h
theorem Z6 (a b:Nat) (h:a+b<18446744073709551616):IntKind.u64.wrap ((a:Int)+(b:Int))=((a+b:Nat):Int):=by
  exact w64 _ h
theorem Qfl (a:Nat) (h:a<18446744073709551616):bits .and .u64 (a:Int) (4294967295:Int)=((a % 4294967296:Nat):Int):=by
  rw [show (4294967295:Int)=((4294967295:Nat):Int) from rfl,u64_and_nat _ _ h (by omega),nat_mask32]
theorem Qcq (a b:Nat):IntKind.u64.wrap ((a:Int)*(b:Int))=((a*b % 18446744073709551616:Nat):Int):=by
  simp [IntKind.wrap,IntKind.bits,IntKind.signed]
theorem QnB (x y x0 x1 y0 y1 w0 b d t tl th c w1 a a2 j hi lo:Nat) (w:World)
    (f1:bits .and .u64 (x:Int) (4294967295:Int)=(x0:Int)) (f2:(x:Int) / (4294967296:Int)=(x1:Int)) (f3:bits .and .u64 (y:Int) (4294967295:Int)=(y0:Int)) (f4:(y:Int) / (4294967296:Int)=(y1:Int))
    (e1:IntKind.u64.wrap ((x0:Int)*(y0:Int))=(w0:Int)) (e2:IntKind.u64.wrap ((x1:Int)*(y0:Int))=(b:Int)) (e3:(w0:Int) / (4294967296:Int)=(d:Int))
    (e4:IntKind.u64.wrap ((b:Int)+(d:Int))=(t:Int)) (e5:bits .and .u64 (t:Int) (4294967295:Int)=(tl:Int)) (e6:(t:Int) / (4294967296:Int)=(th:Int))
    (e7:IntKind.u64.wrap ((x0:Int)*(y1:Int))=(c:Int)) (e8:IntKind.u64.wrap ((tl:Int)+(c:Int))=(w1:Int)) (e9:IntKind.u64.wrap ((x1:Int)*(y1:Int))=(a:Int))
    (e10:IntKind.u64.wrap ((a:Int)+(th:Int))=(a2:Int)) (e11:(w1:Int) / (4294967296:Int)=(j:Int)) (e12:IntKind.u64.wrap ((a2:Int)+(j:Int))=(hi:Int))
    (e13:IntKind.u64.wrap ((x:Int)*(y:Int))=(lo:Int)) :
    Calls prog 278 #[.int .u64 (x:Int),.int .u64 (y:Int)] w fun e w'=>e=.returned (.tuple #[.int .u64 (hi:Int),.int .u64 (lo:Int)])∧w'=w:=by
  go_in
  go_wp2;go_ret2;exact ⟨rfl,rfl⟩
theorem Qqa (x y:Nat) (hx:x<18446744073709551616) (hy:y<18446744073709551616) (w:World) :
    Calls prog 278 #[.int .u64 (x:Int),.int .u64 (y:Int)] w fun e w'=>e=.returned (.tuple #[.int .u64 ((x*y / 18446744073709551616:Nat):Int),.int .u64 ((x*y % 18446744073709551616:Nat):Int)])∧w'=w:=by
  obtain ⟨h1,h2,h3,h4⟩:=Lib.mul64_hi x y hx hy;have ha:=Lib.half_mul_le (a:=x / 4294967296) (b:=y / 4294967296) (by omega) (by omega)
  have hh:x*y / 18446744073709551616<18446744073709551616:=by omega
  rw [← h4] at hh;rw [← h4];have h5:∀ n:Nat,(n:Int) / (4294967296:Int)=((n / 4294967296:Nat):Int):=fun n=>by omega
  refine QnB x y (x % 4294967296) (x / 4294967296) (y % 4294967296) (y / 4294967296) _ _ _ _ _ _ _ _ _ _ _ _ _ w (Qfl x hx) (h5 x) (Qfl y hy) (h5 y)
    (Z7 _ _ h1) (Z7 _ _ (by omega)) (h5 _) (Z6 _ _ h2) (Qfl _ h2) (h5 _) (Z7 _ _ (by omega)) (Z6 _ _ h3) (Z7 _ _ (by omega)) (Z6 _ _ (by omega)) (h5 _) (Z6 _ _ hh) (Qcq x y)
def okV:Value:=.agg #[Bb 0,Bb 0]
def Qed (c:Int) (i:Nat):Value:=.agg #[Bb c,Bb (i:Int)]
theorem Row.two {w:World} {g:Nat} {t:TypeId} {a b:Value} (h:Row w g t [a,b]) :
    w.cell? ⟨g,0,none⟩=some a∧w.cell? ⟨g,1,none⟩=some b∧w.frozen? ⟨g,0,none⟩=false∧w.frozen? ⟨g,1,none⟩=false :=
  ⟨h.cell 0,h.cell 1,h.frozen 0,h.frozen 1⟩
theorem Row.set2 {w:World} {g:Nat} {t:TypeId} {a b:Value} (h:Row w g t [a,b]) (x y:Value) :
    ((w.setCell ⟨g,0,none⟩ x).setCell ⟨g,1,none⟩ y).cell? ⟨g,0,none⟩=some x ∧
    ((w.setCell ⟨g,0,none⟩ x).setCell ⟨g,1,none⟩ y).cell? ⟨g,1,none⟩=some y :=
  have h3:=(h.set 0 x).set 1 y
  ⟨h3.cell 0,h3.cell 1⟩
theorem QbY {B:Nat} {a w:World} (h:Below B a w) {g:Nat} (hg:B≤g) (x y:Value):Below B a ((w.setCell ⟨g,0,none⟩ x).setCell ⟨g,1,none⟩ y) :=
  (h.setCell hg _).setCell hg _
open Go.ChangeShapes Go.WideShapes Go.ChangeAt Go.RowKit
theorem QcO {H:Type} {enc:TypeId×Value→H} {W:World} {E:Nat} {a0:Option Addr} {len0 cap0:Nat} {x:DataW H×List MemPlace}
    (hf:DataW.trod enc prog W 0 (fun _=>true) true E 29 (Value.slice a0 len0 cap0).cells.toList=some x)
    (M:∀ d z,x.1=.slice d z→(d.length+z.length)*prog.bytesOf 5≤reachBytes) :
    ∃ l,Bytes W W.heap.size (.slice a0 len0 cap0) l∧l.length≤140737488351232:=by
  rcases open_ints underlying29 underlying5 (by kernel_rfl) hf with ⟨m,_⟩ | ⟨a,len,cap,zs,m,_,hl,hm,hz,hx,j,O⟩
  · simp [Value.cells] at m
    obtain ⟨rfl,rfl,rfl⟩:=m;exact ⟨[],.inl ⟨rfl,rfl⟩,by simp⟩
  · simp [Value.cells] at m
    obtain ⟨rfl,rfl,rfl⟩:=m;have hz':zs.length=cap0:=by simpa using hz
    have hb:prog.bytesOf 5=1:=by kernel_rfl
    have hr:=M _ _ (by rw [hx])
    rw [hb,Dm] at hr;simp [lits,reachBytes] at hr;refine ⟨(zs.take len0).map (BitVec.ofInt 8),?_,by simp;omega⟩
    by_cases h0:len0=0
    · subst h0
      exact .inr (.inl ⟨a,cap0,rfl,by simp⟩)
    · obtain ⟨b,D,L⟩:=a
      have hc:=j 0 (by omega)
      have C:L=none:=by simpa [Addr.add] using World.cell?_spot hc
      subst C;have q:((zs.take len0).map (BitVec.ofInt 8)).length=len0:=by simp;omega
      refine .inr (.inr ⟨b,D,cap0,by rw [q],by rw [q];exact hl,fun i hi=>?_⟩)
      rw [q] at hi;have A:=j i (by omega)
      have G:(⟨b,D,none⟩:Addr).add i=⟨b,D+i,none⟩:=by unfold Addr.add;split <;> simp_all
      rw [G] at A;refine ⟨CF A,?_⟩;rw [A];have I:i<zs.length:=by omega
      have hw:=O (zs.getD i 0) (by simp [I])
      have hbd:0≤zs.getD i 0∧zs.getD i 0≤255:=by simpa [Lit.wf,IntKind.min,IntKind.max,IntKind.signed,IntKind.bits] using hw
      have e:((zs.take len0).map (BitVec.ofInt 8)).getD i 0=BitVec.ofInt 8 (zs.getD i 0):=by
        simp [hi,I]
      rw [e];unfold b8;rw [BitVec.toNat_ofInt]
      congr 2
      omega
def QaI (cs:List Value) (o:Nat) (vs:List Value):List Value:=cs.take o ++ vs ++ cs.drop (o+vs.length)
theorem YS (cs:List Value) (o:Nat) (vs:List Value) (h:o+vs.length≤cs.length):(QaI cs o vs).length=cs.length:=by grind [QaI]
theorem Qqo (cs:List Value) (o:Nat) (v:Value) (r:List Value) (h:o+(v :: r).length≤cs.length):QaI cs o (v :: r)=QaI (cs.set o v) (o+1) r:=by
  have ho:o<cs.length:=by grind
  unfold QaI
  have e1:(cs.set o v).take (o+1)=cs.take o ++ [v]:=by
    rw [Cx (by simpa using ho),List.take_set_of_le (by omega)]
    simp
  have e2:(cs.set o v).drop (o+1+r.length)=cs.drop (o+1+r.length):=List.drop_set_of_lt (by omega)
  rw [e1,e2,Cy,show o+(r.length+1)=o+1+r.length by omega]
  simp
theorem QbP (cs:List Value) (o:Nat) (vs:List Value) (ho:o≤cs.length) (M:Nat) (hM:o+vs.length≤M):(QaI cs o vs).take M=cs.take o ++ vs ++ (cs.drop (o+vs.length)).take (M-(o+vs.length)):=by grind [QaI,List.take_append,List.take_of_length_le]
theorem Qe6 (cs:List Value) (o:Nat) (vs:List Value) (ho:o≤cs.length) (m:Nat) (hm:m≤o):(QaI cs o vs).take m=cs.take m:=by grind [QaI]
theorem Qqp (cs:List Value) (o:Nat) (vs:List Value) (ho:o≤cs.length):(QaI cs o vs).drop o=vs ++ cs.drop (o+vs.length):=by grind [QaI]
theorem Row.setCells {g:Nat} {t:TypeId}:∀ (vs:List Value) (o:Nat) (w:World) (cs:List Value),Row w g t cs→o+vs.length≤cs.length→Row (w.setCells g o vs) g t (QaI cs o vs)
  | [],o,w,cs,h,_=>by
    have:QaI cs o []=cs:=by simp [QaI]
    rw [this];exact h
  | v :: r,o,w,cs,h,hl=>by
    rw [Qqo cs o v r hl];exact Row.setCells r (o+1) _ _ (h.set o v) (by simp at hl ⊢;omega)
theorem Jb (g:Nat):∀ (vs:List Value) (o:Nat) (w:World),w.grownBy (w.setCells g o vs) (some g)
  | [],_,w=>YQ w _
  | v :: r,o,w=>Qo (YD w g o v) (Jb g r (o+1) _)
theorem QiN {P:Program} (w:World) (dT sT ty e:TypeId) (k:Nat) (b o d q:Nat) (a:Addr) (m A:Nat) (cs:List Value) (hu:P.underlying dT=some (.slice e)) (hs:(P.info? e).map (·.size)=some k)
    (hn:cs.length=Nat.min m d*k) (z:∀ j v,cs[j]?=some v→w.cell? (a.add j)=some v) (hc:∀ j,j<cs.length→(w.cell? ⟨b,o+j,none⟩).isSome=true) (hf:∀ j,j<cs.length→w.frozen? ⟨b,o+j,none⟩=false) (h1:∀ v∈cs,v.oneCell'=true) :
    (Builtin.copy_ #[dT,sT] ty #[.slice (some ⟨b,o,none⟩) d q,.slice (some a) m A]).run P w=.ok (goInt (Nat.min m d)) (w.setCells b o cs):=by
  have hl:=run_loadCells_list (P:=P) w a cs z;have C:=run_storeCells_cells (P:=P) b o cs 0 w (by simpa using hc) (by simpa using hf) h1
  cases hq:P.info? e with
  | none=>simp [hq] at hs
  | some i =>
    have hi:i.size=k:=by simpa [hq] using hs
    simp [Builtin.copy_,run_underlying hu,Builtin.lenOf,Builtin.firstCells,sizeOf,typeInfo,hq,hi,← hn,hl,C]
theorem Qgo {P:Program} (w:World) {o:Oper} {a:Act} {K:Act→World→Prop} {Q:Exit→Act→World→Prop} (d s:Operand) (t t':TypeId)
    (ho:o.op=.call { callee:=.builtin .copy,args:=#[d,s],argTypes:=#[t,t'] }) (v u:Value) (hd:a.eval d=v) (hs:a.eval s=u) {v':Value} {w':World}
    (hr:(Builtin.copy_ #[t,t'] o.type #[v,u]).run P w=.ok v' w') (h:K (a.put o.dst v') w'):o.wp P a w K Q:=by
  unfold Oper.wp execOp;simp only [ho,resolve,invoke,builtin,Cz,CG,CH,DW,CI,DB,hd,hs,hr];exact h
theorem QcB {P:Program} (w:World) {b:Array Oper} {rest:List Oper} {o:Oper} {a:Act} {Q:Exit→Act→World→Prop} (e:o.guard=none) (d s:Operand) (t t':TypeId)
    (ho:o.op=.call { callee:=.builtin .copy,args:=#[d,s],argTypes:=#[t,t'] }) (v u:Value) (hd:a.eval d=v) (hs:a.eval s=u) {v':Value} {w':World}
    (hr:(Builtin.copy_ #[t,t'] o.type #[v,u]).run P w=.ok v' w') (h:wpList P b Q rest (a.put o.dst v') w'):wpList P b Q (o :: rest) a w :=
  CW e fun _ hK=>Qgo w d s t t' ho v u hd hs hr (hK _ _ h)
theorem QdX {P:Program} {b:Array Oper} {o:Oper} {a:Act} {w:World} {K:Act→World→Prop} {Q:Exit→Act→World→Prop} {E:Prop}
    (hg:o.guard=none) (d x:Operand) (dT sT:TypeId) (e:o.op=Op.call { callee:=Callee.builtin Builtin.copy,args:=#[d,x],argTypes:=#[dT,sT] })
    (v u:Value) (hd:a.eval d=v) (hx:a.eval x=u) {v':Value} {w':World} (hr:(Builtin.copy_ #[dT,sT] o.type #[v,u]).run P w=.ok v' w') (hK:K (a.put o.dst v') w') :
    if Region.wanted o (yielded b a.tmps)=true then Oper.wp P o a w K Q else E:=by
  have hw:Region.wanted o (yielded b a.tmps)=true:=by simp [Region.wanted,hg]
  rw [if_pos hw];exact Qgo w d x dT sT e v u hd hx hr hK
theorem QU {w w':World} {base e size n:Nat} {v:Value} {xs:List Value} (h:w.ownsRow base e size v n xs) (hg:Bd w w'):w'.ownsRow base e size v n xs:=by
  obtain ⟨h1,h2⟩:=h;refine ⟨h1,?_⟩
  rcases h2 with h2 | ⟨g,cap,cur,h3,h4,h5,h6⟩
  · simp_all
  · exact .inr ⟨g,cap,cur,h3,h4,(hg.block g (BN.1 h5).1).trans h5,h6⟩
theorem Qf4 {w w1 w2:World} {r:Option Nat} {b:Nat} (h:w.grownBy w1 r) (hb:w.heap.size≤b) (k:w1.grownBy w2 (some b)):w.grownBy w2 r :=
  ⟨k.os.trans h.os,k.tape.trans h.tape,k.output.trans h.output,Bh h.size k.size,fun i hi hr=>(k.block i (Br hi h.size) (by simp;omega)).trans (h.block i hi hr)⟩
theorem ZA {fl cs:List Value} {m:Nat} (h:cs.take m=fl) (j:Nat) (u:Value) (hu:fl[j]?=some u):cs[j]?=some u:=by grind
theorem YC {k:Nat}:∀ (rs:List (List Value)),(∀ r∈rs,r.length=k)→rs.flatten.length=rs.length*k
  | [],_=>by simp
  | r :: rs,h=>by
    rw [CJ,Bs,YC rs (fun r hr=>h r (Cr _ hr)),h r Cj,Cy,BK]
    omega
theorem Qb7 {k:Nat}:∀ (rs:List (List Value)),(∀ r∈rs,r.length=k)→∀ i,(rs.drop i).flatten=rs.flatten.drop (i*k)
  | [],_,i=>by simp
  | r :: rs,h,0=>by simp
  | r :: rs,h,i+1=>by
    have hr:=h r Cj;rw [BU,Qb7 rs (fun r hr=>h r (Cr _ hr)) i,CJ,DX,show r.drop ((i+1)*k)=[] from CK (by rw [hr,BK];omega),hr,Bv,BK,DC]
theorem Qb8 {k:Nat}:∀ (rs:List (List Value)),(∀ r∈rs,r.length=k)→∀ i,(rs.take i).flatten=rs.flatten.take (i*k)
  | [],_,i=>by simp
  | r :: rs,h,0=>by simp
  | r :: rs,h,i+1=>by
    have hr:=h r Cj;rw [Dq,CJ,Qb8 rs (fun r hr=>h r (Cr _ hr)) i,CJ,DV,Bw (l:=r) (by rw [hr,BK];omega),hr,BK,DC]
def QcZ (rs:List (List Value)) (i:Nat) (q:List Value):List (List Value):=rs.take i ++ q :: rs.drop i
theorem Qf8 (rs:List (List Value)) (i:Nat) (q:List Value) (hi:i≤rs.length):(QcZ rs i q).length=rs.length+1:=by grind [QcZ]
theorem QlM {rs:List (List Value)} {i:Nat} {q:List Value} {P:List Value→Prop} (h:∀ r∈rs,P r) (hq:P q):∀ r∈QcZ rs i q,P r:=by grind [QcZ]
theorem Qjo {rs:List (List Value)} {k:Nat} (h:∀ r∈rs,r.length=k) {i:Nat} {q:List Value}:(QcZ rs i q).flatten=rs.flatten.take (i*k) ++ q ++ rs.flatten.drop (i*k):=by grind [QcZ,Qb8,Qb7]
theorem Qqq {ps:List (List Value)} {k m:Nat} {z r:List Value} (h:∀ r∈ps,r.length=k) (hz:z.length=k) (hr:r.length=k):QaI (ps ++ List.replicate (m+1) z).flatten (ps.length*k) r=((ps ++ [r]) ++ List.replicate m z).flatten:=by
  have hl:=YC ps h;unfold QaI;rw [CX,List.replicate_succ,CJ,CX,CX,← hl,DD (Bj _),List.take_length];rw [show ps.flatten.length+r.length=ps.flatten.length+z.length by rw [hr,hz],← Ck,DX,CK (by simp)]
  simp
theorem Qc2 {z:Array Value} {k:Nat} (hz:z.size=k) (hk:0<k):∀ n,(List.replicate n z.toList).flatten=(madeCells z (n*k)).toList
  | 0=>by simp [madeCells]
  | n+1=>by
    rw [List.replicate_succ',CX,Qc2 hz hk n];apply CP;intro i;have b:(madeCells z (n*k)).toList.length=n*k:=by simp [madeCells]
    have hm:(n+1)*k=n*k+k:=BK n k
    rcases Nat.lt_or_ge i (n*k) with h | h
    · rw [Cw (by omega)]
      simp [madeCells,h,show i<(n+1)*k by omega]
    · rw [CY (by omega),b]
      rcases Nat.lt_or_ge i ((n+1)*k) with h2 | h2
      · have e1:i % k=i-n*k:=by
          have:i=(i-n*k)+k*n:=by grind
          conv=>lhs;rw [this]
          rw [Nat.add_mul_mod_self_left,Cv (by omega)]
        simp [madeCells,h2,e1,hz];simp [show i-n*k<z.size by omega]
      · rw [Dr (by simp;omega),Dr (by simp [madeCells];omega)]
theorem Qly:prog.underlying 29=some (.slice (prog.elem 29)):=by kernel_rfl
theorem QuN (w:World):(sizeOf (prog.elem 29)).run prog w=.ok 1 w:=by kernel_rfl
theorem Qbw {w:World} {N:Nat} {oa:Option Addr} {n ca:Nat} {l:Bg} (h:Bytes w N (.slice oa n ca) l) (i j:Nat) (hij:i≤j) (hj:j≤n):Bytes w N (sliced oa i j ca 1) ((l.drop i).take (j-i)):=by
  obtain ⟨A,d,he,hc⟩:=h.shape;obtain ⟨rfl,hn,rfl⟩:oa=A∧n=l.length∧ca=d:=by simpa using he
  subst hn
  by_cases h0:i=j
  · subst h0
    have e:(l.drop i).take (i-i)=[]:=by simp
    rw [e]
    cases oa with
    | none =>
      rcases h with ⟨h1,h2⟩ | ⟨a,m,h1,_⟩ | ⟨b,off,m,h1,_,_⟩
      · obtain ⟨h3,rfl⟩:l.length=0∧ca=0:=by simpa using h1
        left
        have:i=0:=by omega
        subst this;simp [sliced]
      · simp at h1
      · simp at h1
    | some a =>
      right;left
      refine ⟨if ca=i then a else a.add (i*1),ca-i,?_,rfl⟩
      simp only [sliced,DE]
      split <;> simp
  · obtain ⟨b,o,rfl,c1⟩:=h.some (by omega)
    have z:¬ ca=i:=by omega
    right;right
    refine ⟨b,o+i,ca-i,?_,?_,?_⟩
    · have hl:((l.drop i).take (j-i)).length=j-i:=by simp;omega
      rw [hl];simp [sliced,z,Addr.add]
    · simp;omega
    · intro q hq
      simp at hq;have:=c1 (i+q) (by omega)
      refine ⟨this.1,?_⟩;rw [Da,this.2];simp [show q<j-i by omega]
theorem Qcl {w:World} {N:Nat} {oa:Option Addr} {n ca:Nat} {l:Bg} (h:Bytes w N (.slice oa n ca) l) (kd:IntKind) (i:Nat) (hi:i≤n) :
    ∃ v,(∀ w',(Instr.sliceAt 29 (.slice oa n ca) (some (.int kd (i:Int))) none none).run prog w'=.ok v w')∧Bytes w N v (l.drop i):=by
  have hn:n=l.length:=by obtain ⟨oa',ca',he,_⟩:=h.shape;simp at he;exact he.2.1
  refine ⟨sliced oa i n ca 1,fun w'=>?_,?_⟩
  · rw [Eb w' _ _ _ _ _ Qly,run_slice_l w' _ _ _ _ Qly kd (i:Int) (by omega) (by omega),QuN]
    rfl
  · have:=Qbw h i n hi (Bj _)
    rwa [Bw (by simp;omega)] at this
theorem Qs0 {w:World} {N:Nat} {oa:Option Addr} {n ca:Nat} {l:Bg} (h:Bytes w N (.slice oa n ca) l) (kd:IntKind) (j:Nat) (hj:j≤n) :
    ∃ v,(∀ w',(Instr.sliceAt 29 (.slice oa n ca) none (some (.int kd (j:Int))) none).run prog w'=.ok v w')∧Bytes w N v (l.take j):=by
  have hc:n≤ca:=by obtain ⟨oa',ca',he,hc⟩:=h.shape;simp at he;omega
  refine ⟨sliced oa 0 j ca 1,fun w'=>?_,?_⟩
  · rw [Eb w' _ _ _ _ _ Qly,run_slice_h w' _ _ _ _ Qly kd (j:Int) (by omega) (by omega),QuN]
    rfl
  · have:=Qbw h 0 j (BH _) hj
    simpa using this
theorem Row.c4 {w:World} {g:Nat} {t:TypeId} {x0 x1 x2 x3:Value} (h:Row w g t [x0,x1,x2,x3]):w.cell? ⟨g,0,none⟩=some x0∧w.cell? ⟨g,1,none⟩=some x1∧w.cell? ⟨g,2,none⟩=some x2∧w.cell? ⟨g,3,none⟩=some x3 :=
  ⟨h.cell 0,h.cell 1,h.cell 2,h.cell 3⟩
theorem Row.c10 {w:World} {g:Nat} {t:TypeId} {x0 x1 x2 x3 x4 x5 x6 x7 x8 x9:Value} (h:Row w g t [x0,x1,x2,x3,x4,x5,x6,x7,x8,x9]):w.cell? ⟨g,0,none⟩=some x0∧w.cell? ⟨g,1,none⟩=some x1∧w.cell? ⟨g,2,none⟩=some x2∧w.cell? ⟨g,3,none⟩=some x3∧w.cell? ⟨g,4,none⟩=some x4∧w.cell? ⟨g,5,none⟩=some x5∧w.cell? ⟨g,6,none⟩=some x6∧w.cell? ⟨g,7,none⟩=some x7∧w.cell? ⟨g,8,none⟩=some x8∧w.cell? ⟨g,9,none⟩=some x9 :=
  ⟨h.cell 0,h.cell 1,h.cell 2,h.cell 3,h.cell 4,h.cell 5,h.cell 6,h.cell 7,h.cell 8,h.cell 9⟩
theorem Row.c18 {w:World} {g:Nat} {t:TypeId} {x0 x1 x2 x3 x4 x5 x6 x7 x8 x9 A0 A1 A2 A3 A4 A5 A6 A7:Value} (h:Row w g t [x0,x1,x2,x3,x4,x5,x6,x7,x8,x9,A0,A1,A2,A3,A4,A5,A6,A7]):w.cell? ⟨g,0,none⟩=some x0∧w.cell? ⟨g,1,none⟩=some x1∧w.cell? ⟨g,2,none⟩=some x2∧w.cell? ⟨g,3,none⟩=some x3∧w.cell? ⟨g,4,none⟩=some x4∧w.cell? ⟨g,5,none⟩=some x5∧w.cell? ⟨g,6,none⟩=some x6∧w.cell? ⟨g,7,none⟩=some x7∧w.cell? ⟨g,8,none⟩=some x8∧w.cell? ⟨g,9,none⟩=some x9∧w.cell? ⟨g,10,none⟩=some A0∧w.cell? ⟨g,11,none⟩=some A1∧w.cell? ⟨g,12,none⟩=some A2∧w.cell? ⟨g,13,none⟩=some A3∧w.cell? ⟨g,14,none⟩=some A4∧w.cell? ⟨g,15,none⟩=some A5∧w.cell? ⟨g,16,none⟩=some A6∧w.cell? ⟨g,17,none⟩=some A7 :=
  ⟨h.cell 0,h.cell 1,h.cell 2,h.cell 3,h.cell 4,h.cell 5,h.cell 6,h.cell 7,h.cell 8,h.cell 9,h.cell 10,h.cell 11,h.cell 12,h.cell 13,h.cell 14,h.cell 15,h.cell 16,h.cell 17⟩
theorem Qwl (w:World) (t0:TypeId) (c0:List Value):∃ w0,w.alloc (.cells c0.toArray t0)=w0∧Bd w w0∧Hid (Row w0 (w.heap.size) t0 c0)∧w0.heap.size=w.heap.size+1 :=
  ⟨_,rfl,(Bi _ _).alloc (Bj _) _,hid (Row.new _ _ _),by simp⟩
theorem Qwm (w:World) (t0:TypeId) (c0:List Value) (t1:TypeId) (c1:List Value):∃ w0,(w.alloc (.cells c0.toArray t0)).alloc (.cells c1.toArray t1)=w0∧Bd w w0∧Hid (Row w0 (w.heap.size) t0 c0)∧Hid (Row w0 (w.heap.size+1) t1 c1)∧w0.heap.size=w.heap.size+2 :=
  ⟨_,rfl,((Bi _ _).alloc (Bj _) _).alloc (by simp) _,hid ((Row.new _ _ _).alloc _),hid (Row.newAt _ _ _ _ (by simp)),by simp⟩
theorem Qwn (w:World) (t0:TypeId) (c0:List Value) (t1:TypeId) (c1:List Value) (t2:TypeId) (c2:List Value):∃ w0,((w.alloc (.cells c0.toArray t0)).alloc (.cells c1.toArray t1)).alloc (.cells c2.toArray t2)=w0∧Bd w w0∧Hid (Row w0 (w.heap.size) t0 c0)∧Hid (Row w0 (w.heap.size+1) t1 c1)∧Hid (Row w0 (w.heap.size+2) t2 c2)∧w0.heap.size=w.heap.size+3 :=
  ⟨_,rfl,(((Bi _ _).alloc (Bj _) _).alloc (by simp) _).alloc (by simp;omega) _,hid (((Row.new _ _ _).alloc _).alloc _),hid ((Row.newAt _ _ _ _ (by simp)).alloc _),hid (Row.newAt _ _ _ _ (by simp)),by simp⟩
theorem Qwj {wo:World} {g:Nat} {t:TypeId} {b:List Value} (h:Row wo g t b) (cs:List Value) (h1:cs.toArray.all (·.oneCell')=true):∃ wn,wo.setRow g cs.toArray=wn∧Hid (Row wn g t cs)∧Hid (wo.heap[g]?=some (.cells b.toArray t (0,0)))∧Hid (cs.toArray.all (·.oneCell')=true)∧Hid (wo.setRow g cs.toArray=wn) :=
  ⟨_,rfl,hid (Cm wo g b.toArray cs.toArray t (0,0) h),hid h,hid h1,hid rfl⟩
theorem Qvl {j:Array Oper} {rest:List Oper} {o:Oper} {a:Act} {wo wn:World} {Q:Exit→Act→World→Prop} {g:Nat} {t:TypeId} {b d:Array Value} (m:o.guard=none) (x y:Operand) (ho:o.op=.store t x y) (hx:a.eval x=.pointer (some ⟨g,0,none⟩)) (hy:a.eval y=.agg b) (hg:wo.heap[g]?=some (.cells d t (0,0)))
    (hi:(prog.info? t).map (·.size)=some b.size) (e:d.size=b.size) (h1:b.all (·.oneCell')=true) (hs:wo.setRow g b=wn) (h:wpList prog j Q rest (a.put o.dst undef) wn):wpList prog j Q (o :: rest) a wo:=by
  subst hs;exact Dc m t x y ho g b hx hy t d hg hi e h1 h
theorem bof {w w1:World} {o:Obj} (h:w.alloc o=w1):Bd w w1:=by
  subst h;exact (Bi _ _).alloc (Bj _) _
theorem hgo {a b c:World} (h:Hid (Bd a b)) (h2:Bd b c):Hid (Bd a c):=hid (h.out.trans (h2.mono h.out.size))
theorem rgo {w w':World} {g:Nat} {t:TypeId} {cs:List Value} (h:Hid (Row w g t cs)) (hb:Bd w w'):Hid (Row w' g t cs):=hid (h.out.below hb h.out.lt)
theorem rg {w w':World} {g:Nat} {t:TypeId} {cs:List Value} (h:Hid (Row w g t cs)) (hb:Hid (Bd w w')):Row w' g t cs:=h.out.below hb.out h.out.lt
theorem QiM {w w1:World} {t:TypeId} {cs:List Value} (h:w.alloc (.cells cs.toArray t)=w1):Row w1 w.heap.size t cs:=by
  subst h;exact Row.new _ _ _
theorem cgo {B:Nat} {a w:World} {p:Addr} {v:Value} (hc:a.cell? p=some v) (h:Hid (Below B a w)) (hp:p.block<B):w.cell? p=some v:=(h.out.cell hp).trans hc
end Go.Proofs.YtnedafiokmjkkaaGreatDoor
