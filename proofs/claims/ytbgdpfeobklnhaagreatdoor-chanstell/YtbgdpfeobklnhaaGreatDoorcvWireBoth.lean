/-
  Plain mathematics of pieces written as bytes: numbers by sevens of bits, pieces, lists of pieces; what is written is read, in one way alone. No program is named here.
  Slices of what reads as bytes: from a place on, up to a place, between two places. What cutNumber answers: the number that bytes begin with, and what is behind; it only reads. What appendNumber does: a number's bytes, behind what the call owns. What Clone and cutPiece answer: new memory that reads as what was handed in; the piece that bytes begin with, and what is behind. Nothing that was there is turned. Pieces behind a slice value: three cells each. Laws for append where what comes out may pass 2^47 bytes a little: how long it is, that nothing else was turned, and, where it does not pass, what it reads as. What the document's Num answers: a number's bytes, in new memory. What Read answers: the pieces whose bytes were handed in, in new memory; or which error.
  What appendPiece does: a piece's bytes behind what the call owns; or which error. What Write answers: the bytes of pieces, in new memory; or which error, and where. What the document's Write answers: the bytes of pieces, in new memory; or which error, and where.
-/
import Derived.Test.YtbgdpfeobklnhaaGreatDoorcvMemB
import Derived.OwnWalk
import Derived.Deep.RegionHeld3
import Derived.Deep.RegionWith
import Derived.Laws.Cover3
import Derived.Deep.RegionLaw
import Derived.Deep.RegionHeldLaw
namespace Go.Proofs.YtbgdpfeobklnhaaGreatDoor
set_option maxRecDepth 1000000
set_option maxHeartbeats 8000000
def Qet:Nat→Nat→List (BitVec 8)
  | 0,n=>[BitVec.ofNat 8 n]
  | f+1,n=>if n<128 then [BitVec.ofNat 8 n] else BitVec.ofNat 8 (128+n % 128) :: Qet f (n / 128)
def J7 (n:Nat):List (BitVec 8):=Qet n n
theorem Zv (f:Nat) {n:Nat} (h:n<128):Qet f n=[BitVec.ofNat 8 n]:=by
  cases f with
  | zero=>rfl
  | succ f=>rw [Qet,if_pos h]
theorem Qiy:∀ (f f' n:Nat),n≤f→n≤f'→Qet f n=Qet f' n:=by
  intro f
  induction f with
  | zero=>intro f' n h _;rw [Zv 0 (by omega),Zv f' (by omega)]
  | succ f ih =>
    intro f' n h h'
    by_cases hs:n<128
    · rw [Zv _ hs,Zv _ hs]
    · cases f' with
      | zero=>omega
      | succ f'=>rw [Qet,Qet,if_neg hs,if_neg hs,ih f' (n / 128) (by omega) (by omega)]
theorem Qai {n:Nat} (h:n<128):J7 n=[BitVec.ofNat 8 n]:=Zv n h
theorem QbG {n:Nat} (h:128≤n):J7 n=BitVec.ofNat 8 (128+n % 128) :: J7 (n / 128):=by
  unfold J7
  obtain ⟨m,rfl⟩:∃ m,n=m+1:=⟨n-1,by omega⟩
  rw [Qet,if_neg (by omega),Qiy m ((m+1) / 128) _ (by omega) (Nat.le_refl _)]
theorem Qfh:∀ (k n:Nat),n<128 ^ k→0<k→(J7 n).length≤k:=by
  intro k
  induction k with
  | zero=>intro n _ h;omega
  | succ k ih =>
    intro n h _
    by_cases hs:n<128
    · rw [Qai hs];simp
    · rw [QbG (by omega)]
      have hk:0<k:=by
        rcases Nat.eq_zero_or_pos k with rfl | h'
        · simp at h;omega
        · exact h'
      have h2:n / 128<128 ^ k:=by
        rw [Nat.pow_succ] at h
        exact Nat.div_lt_of_lt_mul (by rw [Nat.mul_comm];exact h)
      have:=ih (n / 128) h2 hk
      simp;omega
theorem JD (n:Nat) (h:n<18446744073709551616):(J7 n).length≤10:=Qfh 10 n (by simp;omega) (by omega)
structure Pc where
  k:Int
  n:Nat
  b:List (BitVec 8)
def Pc.wr (p:Pc):List (BitVec 8):=if p.k=1 then 0 :: J7 p.n else 1 :: (J7 p.b.length ++ p.b)
def Pc.ok (p:Pc):Prop:=p.n<18446744073709551616
def Qcv (i:Nat) (out:List (BitVec 8)):List Pc→Except (Int×Nat) (List (BitVec 8))
  | []=>.ok out
  | p :: r=>if p.k≠1∧p.k≠2 then .error (1,i) else if 20000<(out ++ p.wr).length then .error (4,i) else Qcv (i+1) (out ++ p.wr) r
def ZN (l:List Pc):Except (Int×Nat) (List (BitVec 8)):=if 200<l.length then .error (5,0) else Qcv 0 (J7 l.length) l
def wrs (l:List Pc):List (BitVec 8):=(l.map Pc.wr).flatten
theorem QjK:∀ (l:List Pc) (i:Nat) (out:List (BitVec 8)),(∀ p∈l,p.k=1∨p.k=2)→(out ++ wrs l).length≤20000→Qcv i out l=.ok (out ++ wrs l):=by
  intro l
  induction l with
  | nil=>intro i out _ _;simp [Qcv,wrs]
  | cons p r ih =>
    intro i out hk hl
    have e:out ++ wrs (p :: r)=(out ++ p.wr) ++ wrs r:=by simp [wrs]
    rw [e] at hl ⊢
    have hp:=hk p (by simp)
    rw [Qcv,if_neg (by omega),if_neg (by rw [List.length_append] at hl;omega),ih _ _ (fun q hq=>hk q (by simp [hq])) hl]
open Go.RowKit
theorem Qcc (n:Nat) (h:n<18446744073709551616):IntKind.u64.wrap (n:Int)=(n:Int):=by
  simp [IntKind.wrap,IntKind.bits,IntKind.signed];omega
theorem Qja (k:Nat) (hk:k<18446744073709551616):bits .and .u64 (k:Int) 127=((k % 128:Nat):Int):=by
  rw [show (127:Int)=((127:Nat):Int) from rfl,u64_and_nat _ _ hk (by omega),nat_mask7]
theorem Qjv (k:Nat) (hk:k<18446744073709551616):bits .or .u8 (bits .and .u64 (k:Int) 127 % 256) 128=b8 (BitVec.ofNat 8 (128+k % 128)):=by
  have h1:k % 128<128:=Nat.mod_lt _ (by omega)
  rw [Qja k hk,show (((k % 128:Nat):Int)) % 256=((k % 128:Nat):Int) by omega,show (128:Int)=((128:Nat):Int) from rfl,u8_or_nat _ _ (by omega) (by omega),Nat.or_comm]
  have:=Nat.two_pow_add_eq_or_of_lt (i:=7) (show k % 128<2 ^ 7 by omega) 1
  rw [show (2:Nat) ^ 7*1=128 from rfl] at this
  rw [← this]
  unfold b8;simp;omega
theorem YI (n:Nat) (l:List (BitVec 8)) (v:Value) (base:Nat) (w:World) (hn:n<18446744073709551616) (hb:base≤w.heap.size) (hown:Qq w base v l) (hl:l.length≤1000000) :
    Calls Tryz.prog 136 #[v,.int .u64 (n:Int)] w fun e w'=>∃ v',e=.returned v'∧Qq w' base v' (l ++ J7 n)∧Below base w w'∧Q6 w w':=by
  have HO:=hid hown
  clear hown
  go_enter Tryz.func136,Tryz.ntmps136
  go_wp2_with fail
  go_loopw [0,1] (fun x y wr=>∃ (k:Nat) (m:List (BitVec 8)),y=.int .u64 (k:Int)∧k<18446744073709551616∧Hid (Qq wr base x m∧Below base w wr∧l ++ J7 n=m ++ J7 k∧Q6 w wr)) (fun _ y _=>(intOf y).toNat)
  case atStart=>exact ⟨n,l,rfl,hn,HO.out,Below.refl _ _,rfl,Q6.refl _⟩
  case round =>
    obtain ⟨k,m,rfl,hk,HR⟩:=hrel
    have hm:m.length≤1000020:=by
      have h1:=congrArg List.length HR.out.2.2.1
      have h2:=JD n hn
      simp at h1;omega
    have hs:base≤wr.heap.size:=Nat.le_trans hb HR.out.2.1.size
    by_cases hbig:k<128
    · have hgt:decide ((127:Int)<(k:Int))=false:=by simp;omega
      have hy:=hid (show (k:Int)=b8 (BitVec.ofNat 8 k) by unfold b8;simp;omega)
      go_wp2_with (at_builtin;refine JK rfl (.tmp 16) (.tmp 19) rfl base _ m rfl HR.out.1 _ _ hy.out rfl (by omega) hs ?_;intro v' w1 hown' hbe' hke')
      go_ret
      exact ⟨_,rfl,by rw [HR.out.2.2.1,Qai hbig];exact hown',HR.out.2.1.trans hbe',HR.out.2.2.2.trans hke'⟩
    · have hgt:decide ((127:Int)<(k:Int))=true:=by simp;omega
      have hy:bits .or .u8 (bits .and .u64 (k:Int) 127 % 256) 128=b8 (BitVec.ofNat 8 (128+k % 128)):=Qjv k hk
      go_wp2_with (at_builtin;refine JK rfl (.tmp 7) (.tmp 12) rfl base _ m rfl HR.out.1 _ _ rfl rfl (by omega) hs ?_;intro v' w1 hown' hbe' hke')
      go_roundw
      case rel=>exact ⟨k / 128,m ++ [BitVec.ofNat 8 (128+k % 128)],by go_num,by omega,hown',HR.out.2.1.trans hbe',by rw [HR.out.2.2.1,QbG (by omega)];simp,HR.out.2.2.2.trans hke'⟩
      case measure=>simp [intOf];omega
theorem Row.three {w:World} {g:Nat} {t:TypeId} {a b c:Value} (h:Row w g t [a,b,c]) :
    w.cell? ⟨g,0,none⟩=some a∧w.cell? ⟨g,1,none⟩=some b∧w.cell? ⟨g,2,none⟩=some c∧w.frozen? ⟨g,0,none⟩=false∧w.frozen? ⟨g,1,none⟩=false∧w.frozen? ⟨g,2,none⟩=false :=
  ⟨h.cell 0,h.cell 1,h.cell 2,h.frozen 0,h.frozen 1,h.frozen 2⟩
theorem Row.set3 {w:World} {g:Nat} {t:TypeId} {a b c:Value} (h:Row w g t [a,b,c]) (x y z:Value) :
    (((w.setCell ⟨g,0,none⟩ x).setCell ⟨g,1,none⟩ y).setCell ⟨g,2,none⟩ z).cell? ⟨g,0,none⟩=some x ∧
    (((w.setCell ⟨g,0,none⟩ x).setCell ⟨g,1,none⟩ y).setCell ⟨g,2,none⟩ z).cell? ⟨g,1,none⟩=some y ∧
    (((w.setCell ⟨g,0,none⟩ x).setCell ⟨g,1,none⟩ y).setCell ⟨g,2,none⟩ z).cell? ⟨g,2,none⟩=some z :=
  have h3:=((h.set 0 x).set 1 y).set 2 z
  ⟨h3.cell 0,h3.cell 1,h3.cell 2⟩
theorem QfO {B:Nat} {a w:World} (h:Below B a w) {g:Nat} (hg:B≤g) (x y z:Value):Below B a (((w.setCell ⟨g,0,none⟩ x).setCell ⟨g,1,none⟩ y).setCell ⟨g,2,none⟩ z) :=
  ((h.setCell hg _).setCell hg _).setCell hg _
theorem Qq.set3 {w:World} {base g:Nat} {v:Value} {l:List (BitVec 8)} (h:Qq w base v l) (hg:g<base) (x y z:Value):Qq (((w.setCell ⟨g,0,none⟩ x).setCell ⟨g,1,none⟩ y).setCell ⟨g,2,none⟩ z) base v l :=
  h.keep fun k hk=>by
    rw [heap_setCell_other _ _ _ _ (show k≠g by omega),heap_setCell_other _ _ _ _ (show k≠g by omega),heap_setCell_other _ _ _ _ (show k≠g by omega)]
def pcV (p:Pc) (vb:Value):Value:=.agg #[.int .i64 p.k,.int .u64 (p.n:Int),vb]
def JM (w:World) (N:Nat) (sv:Value) (l:List Pc):Prop :=
  (sv=.slice none 0 0∧l=[])∨(∃ a cap,sv=.slice (some a) 0 cap∧l=[]) ∨
  ∃ b off cap,sv=.slice (some ⟨b,off,none⟩) l.length cap∧l.length≤cap∧∀ i p,l[i]?=some p→b<N∧∃ vb,
    w.cell? ⟨b,off+i*3,none⟩=some (.int .i64 p.k)∧w.cell? ⟨b,off+i*3+1,none⟩=some (.int .u64 (p.n:Int))∧w.cell? ⟨b,off+i*3+2,none⟩=some vb∧Bytes w N vb p.b
theorem JM.shape {w:World} {N:Nat} {sv:Value} {l:List Pc} (h:JM w N sv l):∃ oa cap,sv=.slice oa l.length cap∧l.length≤cap:=by
  rcases h with ⟨rfl,rfl⟩ | ⟨a,cap,rfl,rfl⟩ | ⟨b,off,cap,rfl,hc,_⟩
  · exact ⟨none,0,rfl,Nat.le_refl _⟩
  · exact ⟨_,cap,rfl,Nat.zero_le _⟩
  · exact ⟨_,cap,rfl,hc⟩
theorem JM.some {w:World} {N:Nat} {oa:Option Addr} {n cap:Nat} {l:List Pc} (h:JM w N (.slice oa n cap) l) (hl:0<n) :
    ∃ b off,oa=some ⟨b,off,none⟩∧∀ i p,l[i]?=some p→b<N∧∃ vb,
    w.cell? ⟨b,off+i*3,none⟩=some (.int .i64 p.k)∧w.cell? ⟨b,off+i*3+1,none⟩=some (.int .u64 (p.n:Int))∧w.cell? ⟨b,off+i*3+2,none⟩=some vb∧Bytes w N vb p.b:=by
  rcases h with ⟨h1,_⟩ | ⟨_,_,h1,_⟩ | ⟨b,off,c,h1,_,h3⟩
  · simp at h1;omega
  · simp at h1;omega
  · simp at h1
    exact ⟨b,off,h1.1,h3⟩
theorem JM.below {w w':World} {N:Nat} {sv:Value} {l:List Pc} (h:JM w N sv l) (hg:Below N w w'):JM w' N sv l:=by
  rcases h with h | h | ⟨b,off,cap,h1,h2,h3⟩
  · exact .inl h
  · exact .inr (.inl h)
  · refine .inr (.inr ⟨b,off,cap,h1,h2,fun i p hp=>?_⟩)
    obtain ⟨hb,vb,d0,d1,d2,d3⟩:=h3 i p hp
    exact ⟨hb,vb,(hg.cell hb).trans d0,(hg.cell hb).trans d1,(hg.cell hb).trans d2,d3.below hg⟩
theorem JM.mono {w:World} {N M:Nat} {sv:Value} {l:List Pc} (h:JM w N sv l) (hN:N≤M):JM w M sv l:=by
  rcases h with h | h | ⟨b,off,cap,h1,h2,h3⟩
  · exact .inl h
  · exact .inr (.inl h)
  · refine .inr (.inr ⟨b,off,cap,h1,h2,fun i p hp=>?_⟩)
    obtain ⟨hb,vb,d0,d1,d2,d3⟩:=h3 i p hp
    exact ⟨Nat.lt_of_lt_of_le hb hN,vb,d0,d1,d2,d3.mono hN⟩
def Pc.fits (p:Pc):Prop:=p.ok∧p.b.length≤140737488351232
theorem Qh8 {need old:Nat} (h:old<need) (hn:need≤150000000000000):Builtin.nextslicecap need old*1≤281474976710656:=by
  unfold Builtin.nextslicecap
  split
  · omega
  · split
    · omega
    · rw [growBy_four]
      repeat' split
      all_goals omega
theorem Qhc {w:World} {base g:Nat} (h:base≤g) (c:Array Value):Below base w (w.setRow g c) :=
  ⟨rfl,rfl,rfl,by simp,fun k hk=>setRow_other w g k _ (by omega)⟩
theorem Qdn {o:Oper} {a:Act} {w:World} {K:Act→World→Prop} {Q:Exit→Act→World→Prop} (s x:Operand)
    (ho:o.op=.call { callee:=.builtin .append,args:=#[s,x],argTypes:=#[29,29] })
    (base:Nat) (v:Value) (m:List (BitVec 8)) (hs:a.eval s=v) (hown:Qq w base v m) (sv:Value) (l:List (BitVec 8)) (hx:a.eval x=sv) {N:Nat} (hb:Bytes w N sv l)
    (hn:m.length≤1000000) (hl:l.length≤140737488355328) (hbase:base≤w.heap.size)
    (h:∀ oa cap w',Below base w w'→Q6 w w'→(m.length+l.length≤140737488355328→Qq w' base (.slice oa (m.length+l.length) cap) (m ++ l))→K (a.put o.dst (.slice oa (m.length+l.length) cap)) w'):o.wp Tryz.prog a w K Q:=by
  by_cases hsm:m.length+l.length≤140737488355328
  · refine ZB s x ho base v m hs hown sv l hx hb hsm hbase ?_
    intro v' w' h1 h2 h3
    obtain ⟨oa,cap,rfl,hc⟩:=h1.shape
    rw [List.length_append] at h1 ⊢
    exact h oa cap w' h2 h3 (fun _=>h1)
  · obtain ⟨i0,hi0,hz0,hz1,hz2⟩:=info_parts Zc
    rcases Qab hb with ⟨rfl,rfl⟩ | ⟨ad,cap,rfl,hsrc⟩
    · exact absurd (show m.length+0≤140737488355328 by omega) hsm
    · have hown':=hown
      obtain ⟨hxl,h2⟩:=hown'
      rcases h2 with ⟨rfl,h0⟩ | ⟨g,c,cur,rfl,hbg,hg,hnc,hcm,hcs,htake⟩
      · exact absurd (show m.length+l.length≤140737488355328 by omega) hsm
      · have hlm:(l.map V).length=l.length*i0.size:=by rw [hz1];simp
        have h1:∀ u∈l.map V,u.oneCell'=true:=fun y hy=>by obtain ⟨z,_,rfl⟩:=List.mem_map.1 hy;rfl
        by_cases hroom:m.length+l.length≤c
        · have hrun:=run_append_room (P:=Tryz.prog) w 29 o.type 5 i0 Tryz.underlying29 hi0 g m.length c cur hg ad l.length cap (l.map V) hlm hsrc h1 hroom (by rw [hz1,hcs];simp;omega)
          unfold Oper.wp execOp
          simp only [ho,resolve,invoke,builtin,Sem.run_bind,Sem.run_pure,Result.andThen_ok,List.map_toArray,List.map_cons,List.map_nil,hs,hx,hrun]
          refine h _ _ _ (Qhc hbg _) (fun k cs t fr hk ht=>setRow_other w g k _ ?_) (fun h=>absurd h hsm)
          rintro rfl
          rw [hg] at hk
          simp at hk
          exact ht hk.2.1.symm
        · have hrun:=run_append_grow (P:=Tryz.prog) w 29 o.type 5 i0 (.int .u8 0) Tryz.underlying29 hi0 hz0 ⟨g,0,none⟩ m.length c (m.map V) (by rw [hz1];exact hxl) (World.ownsRow.cells hown (g:=g) rfl) ad l.length cap (l.map V) hlm hsrc (by omega) (by omega) (by rw [hz2];exact Qh8 (by omega) (by omega))
          unfold Oper.wp execOp
          simp only [ho,resolve,invoke,builtin,Sem.run_bind,Sem.run_pure,Result.andThen_ok,List.map_toArray,List.map_cons,List.map_nil,hs,hx,hrun]
          refine h _ _ _ ?_ ?_ (fun h=>absurd h hsm)
          · exact ⟨rfl,rfl,rfl,by simp,fun k hk=>Below.heap_alloc w.drew _ k (by show k<w.heap.size;omega)⟩
          · exact fun k _ _ _ hk _=>Below.heap_alloc w.drew _ k (Array.getElem?_eq_some_iff.1 hk).1
theorem Qb8 {ops:Array Oper} {o:Oper} {a:Act} {w:World} {K:Act→World→Prop} {Q:Exit→Act→World→Prop} {E:Prop} (hgd:o.guard=none) (s x:Operand)
    (ho:o.op=.call { callee:=.builtin .append,args:=#[s,x],argTypes:=#[29,29] })
    (base:Nat) (v:Value) (m:List (BitVec 8)) (hs:a.eval s=v) (hown:Qq w base v m) (sv:Value) (l:List (BitVec 8)) (hx:a.eval x=sv) {N:Nat} (hb:Bytes w N sv l)
    (hn:m.length≤1000000) (hl:l.length≤140737488355328) (hbase:base≤w.heap.size)
    (h:∀ oa cap w',Below base w w'→Q6 w w'→(m.length+l.length≤140737488355328→Qq w' base (.slice oa (m.length+l.length) cap) (m ++ l))→K (a.put o.dst (.slice oa (m.length+l.length) cap)) w') :
    if Region.wanted o (yielded ops a.tmps)=true then Oper.wp Tryz.prog o a w K Q else E:=by
  have hw:Region.wanted o (yielded ops a.tmps)=true:=by simp [Region.wanted,hgd]
  rw [if_pos hw]
  exact Qdn s x ho base v m hs hown sv l hx hb hn hl hbase h
theorem Qbk (n:Nat) (w:World) (hn:n<18446744073709551616) :
    Calls Tryz.prog 109 #[.int .u64 (n:Int)] w fun e w'=>∃ v',e=.returned v'∧Qq w' w.heap.size v' (J7 n)∧Below w.heap.size w w':=by
  go_enter Tryz.func109,Tryz.ntmps109
  go_wp2_with fail
  go_loopw [0,3] (fun y x wr=>∃ (k:Nat) (m:List (BitVec 8)),y=.int .u64 (k:Int)∧k<18446744073709551616∧Hid (Qq wr w.heap.size x m∧Below w.heap.size w wr∧J7 n=m ++ J7 k)) (fun y _ _=>(intOf y).toNat)
  case atStart=>exact ⟨n,[],rfl,hn,Qq.nil _ _,Below.refl _ _,rfl⟩
  case round =>
    obtain ⟨k,m,rfl,hk,HR⟩:=hrel
    have hm:m.length≤1000020:=by
      have h1:=congrArg List.length HR.out.2.2
      have h2:=JD n hn
      simp at h1;omega
    have hs:w.heap.size≤wr.heap.size:=HR.out.2.1.size
    by_cases hbig:k<128
    · have hgt:decide ((127:Int)<(k:Int))=false:=by simp;omega
      have hy:=hid (show (k:Int)=b8 (BitVec.ofNat 8 k) by unfold b8;simp;omega)
      go_wp2_with (at_builtin;refine JK rfl (.tmp 15) (.tmp 18) rfl w.heap.size _ m rfl HR.out.1 _ _ hy.out rfl (by omega) hs ?_;intro v' w1 hown' hbe' hke')
      go_ret
      exact ⟨_,rfl,by rw [HR.out.2.2,Qai hbig];exact hown',HR.out.2.1.trans hbe'⟩
    · have hgt:decide ((127:Int)<(k:Int))=true:=by simp;omega
      have hy:=hid (show 128+(k:Int) % 128=b8 (BitVec.ofNat 8 (128+k % 128)) by unfold b8;simp;omega)
      go_wp2_with (at_builtin;go_loud (refine JK rfl (.tmp 6) (.tmp 11) rfl w.heap.size _ m rfl HR.out.1 _ _ hy.out rfl (by omega) hs ?_);intro v' w1 hown' hbe' hke')
      go_roundw
      case rel=>exact ⟨k / 128,m ++ [BitVec.ofNat 8 (128+k % 128)],by go_num,by omega,hown',HR.out.2.1.trans hbe',by rw [HR.out.2.2,QbG (by omega)];simp⟩
      case measure=>simp [intOf];omega
theorem Qf5:(Tryz.prog.info? 110).map (fun i=>(i.zero,i.size,i.bytes))=some (some (.agg #[.int .i64 0,.int .u64 0,.slice none 0 0]),3,40):=by kernel_rfl
def YS (q:Pc×Value):List Value:=[.int .i64 q.1.k,.int .u64 (q.1.n:Int),q.2]
theorem QdB {w w':World} {base e size n:Nat} {v:Value} {xs:List Value} (h:w.ownsRow base e size v n xs) (hg:Below w.heap.size w w'):w'.ownsRow base e size v n xs:=by
  obtain ⟨h1,h2⟩:=h
  refine ⟨h1,?_⟩
  rcases h2 with h2 | ⟨g,cap,cur,h3,h4,h5,h6⟩
  · exact .inl h2
  · exact .inr ⟨g,cap,cur,h3,h4,(hg.block g (Array.getElem?_eq_some_iff.1 h5).1).trans h5,h6⟩
theorem Qq.below {w w':World} {base:Nat} {v:Value} {l:List (BitVec 8)} (h:Qq w base v l) (hg:Below w.heap.size w w'):Qq w' base v l:=QdB h hg
theorem Qq.grown {w w':World} {base base' n:Nat} {v vb:Value} {l:List (BitVec 8)} {xs:List Value} (h:Qq w base vb l) (hv:w.ownsRow base' 110 3 v n xs) (hg:w.grownBy w' v.ownBlock):Qq w' base vb l:=by
  obtain ⟨h1,h2⟩:=h
  refine ⟨h1,?_⟩
  rcases h2 with h2 | ⟨g,cap,cur,h3,h4,h5,h6⟩
  · exact .inl h2
  · refine .inr ⟨g,cap,cur,h3,h4,?_,h6⟩
    rw [hg.block g (Array.getElem?_eq_some_iff.1 h5).1 ?_,h5]
    intro he
    obtain ⟨_,h7⟩:=hv
    rcases h7 with ⟨rfl,_⟩ | ⟨g',c',cur',rfl,_,hg',_⟩
    · simp [Value.ownBlock] at he
    · obtain rfl:g=g':=by simpa [Value.ownBlock] using he
      rw [hg'] at h5
      simp at h5
theorem Qik (ps:List (Pc×Value)):∀ (i j:Nat) (q:Pc×Value),ps[i]?=some q→j<3→(ps.flatMap YS)[i*3+j]?=(YS q)[j]?:=by
  induction ps with
  | nil=>intro i j q h;simp at h
  | cons a ps ih =>
    intro i j q h hj
    rw [List.flatMap_cons]
    have ha:(YS a).length=3:=rfl
    cases i with
    | zero =>
      obtain rfl:a=q:=by simpa using h
      rw [Nat.zero_mul,Nat.zero_add,List.getElem?_append_left (by omega)]
    | succ i =>
      rw [List.getElem?_append_right (by omega),ha,show (i+1)*3+j-3=i*3+j by omega]
      exact ih i j q (by simpa using h) hj
theorem QfK (n:Nat) (h:n≤1000000):IntKind.i64.wrap (20000-(n:Int))=20000-(n:Int):=by simp [IntKind.wrap,IntKind.bits,IntKind.signed];split <;> omega
theorem Qcq (p:Pc) (l:List (BitVec 8)) (v vb:Value) (base N:Nat) (w:World) (hb:base≤w.heap.size) (hown:Qq w base v l) (hl:l.length≤20000) (hp:p.ok) (hvb:Bytes w N vb p.b) (hN:N≤base) (hpl:p.b.length≤140737488351232) :
    Calls Tryz.prog 137 #[v,pcV p vb] w fun e w'=>Below base w w' ∧
      ((¬ (p.k=1∨p.k=2)∧e=.returned (.tuple #[.slice none 0 0,.int .i64 1])) ∨
       ((p.k=1∨p.k=2)∧20000<(l ++ p.wr).length∧e=.returned (.tuple #[.slice none 0 0,.int .i64 4])) ∨
       ((p.k=1∨p.k=2)∧(l ++ p.wr).length≤20000∧∃ v',e=.returned (.tuple #[v',.int .i64 0])∧Qq w' base v' (l ++ p.wr))):=by
  obtain ⟨ob,cb,rfl,hcb⟩:=hvb.shape
  obtain ⟨ov,cv,rfl,hcv⟩:=hown.shape
  obtain ⟨w0,hw0⟩:∃ w0,w.alloc (.cells #[.int .i64 p.k,.int .u64 (p.n:Int),.slice ob p.b.length cb] 110)=w0:=⟨_,rfl⟩
  have hsz0:w0.heap.size=w.heap.size+1:=by rw [← hw0];simp
  have hb0:=bof hw0
  have hrow0:Row w0 w.heap.size 110 [.int .i64 p.k,.int .u64 (p.n:Int),.slice ob p.b.length cb]:=by rw [← hw0];exact Row.new _ _ _
  obtain ⟨c0,c1,c2,z0,z1,z2⟩:=hrow0.three
  have HO:=hid (show Qq w0 base (.slice ov l.length cv) l by rw [← hw0];exact hown.alloc _)
  have HVB:=hid (hvb.below (hb0.mono (Nat.le_trans hN hb)))
  have HB0:=hid hb0
  have HR0:=hid hrow0
  clear hown hvb hb0 hrow0
  unfold pcV
  by_cases hk1:p.k=1
  · have e1:(p.k == 1)=true:=by simp [hk1]
    have HK:=hid hk1
    clear hk1
    go_enter Tryz.func137,Tryz.ntmps137
    go_wp2_with fail
    have HA1:=hid (show Qq (w0.alloc (.cells #[.int .u8 0] 5)).drew base (.slice ov l.length cv) l from HO.out.alloc _)
    have HA2:=hid (show Bytes (w0.alloc (.cells #[.int .u8 0] 5)).drew (w0.heap.size+1) (.slice (some ⟨w.heap.size+1,0,none⟩) 1 1) [0] by rw [← hsz0];exact (Yj w0 [0] 5 (0,0) 1 (by simp)).drewN 1)
    have HA3:=hid (show l.length+[(0:BitVec 8)].length≤140737488355328 by simp;omega)
    have HA4:=hid (show base≤((w0.alloc (.cells #[.int .u8 0] 5)).drew).heap.size by show base≤(w0.alloc (.cells #[.int .u8 0] 5)).heap.size;simp;omega)
    have HA5:=hid (show Row ((w0.alloc (.cells #[.int .u8 0] 5)).drew) w.heap.size 110 [.int .i64 p.k,.int .u64 (p.n:Int),.slice ob p.b.length cb] from (HR0.out.alloc _))
    obtain ⟨l1,hl1⟩:∃ l1,l ++ [0]=l1:=⟨_,rfl⟩
    obtain ⟨l2,hl2⟩:∃ l2,l1 ++ J7 p.n=l2:=⟨_,rfl⟩
    have HL1:=hid hl1
    have HL2:=hid hl2
    have hl1l:l1.length≤1000000:=by rw [← hl1];simp;omega
    have hl2e:l2=l ++ p.wr:=by rw [← hl2,← hl1];simp [Pc.wr,HK.out]
    have hl2l:l2.length≤1000000:=by have:=JD p.n hp;rw [← hl2,← hl1];simp;omega
    have HE2:=hid hl2e
    have HLL:=hid hl1l
    clear hl1 hl2 hl2e hl1l
    go_region_law (first
      | (refine Jg rfl (.tmp 11) (.tmp 12) rfl base (.slice ov l.length cv) l ?_ HA1.out (.slice (some ⟨w.heap.size+1,0,none⟩) 1 1) [0] ?_ HA2.out HA3.out HA4.out ?_;rfl;rfl;intro v1 w1 hown1 hbe1 hke1;rw [HL1.out] at hown1;obtain ⟨o1,k1,rfl,hk1⟩:=hown1.shape;have HR1:=hid (hke1.row HA5.out (by decide));have c1':=HR1.out.cell 1;have HO1:=hid hown1;have HBE1:=hid hbe1;have HKE1:=hid hke1;clear hown1 hbe1 hke1)
      | (go_simp;go_at_call 136;refine (YI p.n l1 (.slice o1 l1.length k1) base w1 hp (Nat.le_trans HA4.out HBE1.out.size) HO1.out HLL.out).mono ?_;rintro e w2 ⟨v2,rfl,hown2,hbe2,hke2⟩;rw [HL2.out] at hown2;obtain ⟨o2,k2,rfl,hk2⟩:=hown2.shape;have HO2:=hid hown2;have HBE2:=hid (HBE1.out.trans hbe2);have HKE2:=hid (HKE1.out.trans hke2);clear hown2 hbe2 hke2))
    all_goals
      have hws:=QfK l2.length hl2l
      have HBZ:=hid ((HB0.out.mono hb).trans ((((Below.refl base w0).alloc (show base≤w0.heap.size by omega) (.cells #[.int .u8 0] 5)).drew).trans HBE2.out))
      by_cases hbig:20000<l2.length
      · have e3:decide ((20000:Int)-(l2.length:Int)<0)=true:=by simp;omega
        go_wp2
        go_ret2
        exact ⟨HBZ.out,.inr (.inl ⟨.inl HK.out,by rw [← HE2.out];exact hbig,rfl⟩)⟩
      · have e3:decide ((20000:Int)-(l2.length:Int)<0)=false:=by simp;omega
        have HF1:=hid (show l2.length+([]:List (BitVec 8)).length≤140737488355328 by simp;omega)
        have HF2:=hid (show base≤w2.heap.size from Nat.le_trans hb HBZ.out.size)
        go_wp2_with (at_builtin;refine Q5 rfl (.tmp 35) (.tmp 36) rfl base _ l2 rfl HO2.out _ [] rfl (N:=0) (.inl ⟨rfl,rfl⟩) HF1.out HF2.out ?_;intro v3 w3 hown3 hbe3 hke3)
        go_ret2
        exact ⟨HBZ.out.trans hbe3,.inr (.inr ⟨.inl HK.out,by rw [← HE2.out];omega,_,rfl,by rw [← HE2.out];simpa using hown3⟩)⟩
  · have e1:(p.k == 1)=false:=by simp [hk1]
    have HK1:=hid hk1
    clear hk1
    by_cases hk2:p.k=2
    · have e2:(p.k == 2)=true:=by simp [hk2]
      have HK:=hid hk2
      clear hk2
      have hwb:IntKind.u64.wrap (p.b.length:Int)=(p.b.length:Int):=Qcc _ (by omega)
      go_enter Tryz.func137,Tryz.ntmps137
      go_wp2_with fail
      have HA1:=hid (show Qq (w0.alloc (.cells #[.int .u8 1] 5)).drew base (.slice ov l.length cv) l from HO.out.alloc _)
      have HA2:=hid (show Bytes (w0.alloc (.cells #[.int .u8 1] 5)).drew (w0.heap.size+1) (.slice (some ⟨w.heap.size+1,0,none⟩) 1 1) [1] by rw [← hsz0];exact (Yj w0 [1] 5 (0,0) 1 (by simp)).drewN 1)
      have HA3:=hid (show l.length+[(1:BitVec 8)].length≤140737488355328 by simp;omega)
      have HA4:=hid (show base≤((w0.alloc (.cells #[.int .u8 1] 5)).drew).heap.size by show base≤(w0.alloc (.cells #[.int .u8 1] 5)).heap.size;simp;omega)
      have HA5:=hid (show Row ((w0.alloc (.cells #[.int .u8 1] 5)).drew) w.heap.size 110 [.int .i64 p.k,.int .u64 (p.n:Int),.slice ob p.b.length cb] from (HR0.out.alloc _))
      obtain ⟨l1,hl1⟩:∃ l1,l ++ [1]=l1:=⟨_,rfl⟩
      obtain ⟨l2,hl2⟩:∃ l2,l1 ++ J7 p.b.length=l2:=⟨_,rfl⟩
      have HL1:=hid hl1
      have HL2:=hid hl2
      have hl1l:l1.length≤1000000:=by rw [← hl1];simp;omega
      have hl2e:l2 ++ p.b=l ++ p.wr:=by rw [← hl2,← hl1];simp [Pc.wr,HK.out]
      have hl2l:l2.length≤1000000:=by have:=JD p.b.length (by omega);rw [← hl2,← hl1];simp;omega
      have HE2:=hid hl2e
      have HLL:=hid hl1l
      have HPB:=hid (show p.b.length<18446744073709551616 by omega)
      clear hl1 hl2 hl2e hl1l
      go_region_law (first
        | (refine Jg rfl (.tmp 19) (.tmp 20) rfl base (.slice ov l.length cv) l ?_ HA1.out (.slice (some ⟨w.heap.size+1,0,none⟩) 1 1) [1] ?_ HA2.out HA3.out HA4.out ?_;rfl;rfl;intro v1 w1 hown1 hbe1 hke1;rw [HL1.out] at hown1;obtain ⟨o1,k1,rfl,hk1⟩:=hown1.shape;have HR1:=hid (hke1.row HA5.out (by decide));have c2':=HR1.out.cell 2;have HO1:=hid hown1;have HBE1:=hid hbe1;have HKE1:=hid hke1;clear hown1 hbe1 hke1)
        | (go_simp;go_at_call 136;refine (YI p.b.length l1 (.slice o1 l1.length k1) base w1 HPB.out (Nat.le_trans HA4.out HBE1.out.size) HO1.out HLL.out).mono ?_;rintro e w2 ⟨v2,rfl,hown2,hbe2,hke2⟩;rw [HL2.out] at hown2;obtain ⟨o2,k2,rfl,hk2⟩:=hown2.shape;have HO2:=hid hown2;have HBE2:=hid (HBE1.out.trans hbe2);have HR2:=hid (hke2.row HR1.out (by decide));have c2'':=HR2.out.cell 2;clear hown2 hbe2 hke2))
      all_goals
        have hws:=QfK l2.length hl2l
        have HBZ0:=hid (((Below.refl base w0).alloc (show base≤w0.heap.size by omega) (.cells #[.int .u8 1] 5)).drew.trans HBE2.out)
        have HBZ:=hid ((HB0.out.mono hb).trans HBZ0.out)
        have HVB2:=hid (HVB.out.below (HBZ0.out.mono hN))
        by_cases hbig:20000<l2.length+p.b.length
        · have e3:decide ((20000:Int)-(l2.length:Int)<(p.b.length:Int))=true:=by simp;omega
          go_wp2
          go_ret2
          exact ⟨HBZ.out,.inr (.inl ⟨.inr HK.out,by rw [← HE2.out,List.length_append];exact hbig,rfl⟩)⟩
        · have e3:decide ((20000:Int)-(l2.length:Int)<(p.b.length:Int))=false:=by simp;omega
          have HF1:=hid (show l2.length+p.b.length≤140737488355328 by omega)
          have HF2:=hid (show base≤w2.heap.size from Nat.le_trans hb HBZ.out.size)
          go_wp2_with (at_builtin;refine Q5 rfl (.tmp 35) (.tmp 36) rfl base _ l2 rfl HO2.out _ p.b rfl HVB2.out HF1.out HF2.out ?_;intro v3 w3 hown3 hbe3 hke3)
          go_ret2
          exact ⟨HBZ.out.trans hbe3,.inr (.inr ⟨.inr HK.out,by rw [← HE2.out,List.length_append];omega,_,rfl,by rw [← HE2.out];exact hown3⟩)⟩
    · have e2:(p.k == 2)=false:=by simp [hk2]
      have HK2:=hid hk2
      clear hk2
      go_enter Tryz.func137,Tryz.ntmps137
      go_wp2
      go_ret2
      exact ⟨HB0.out.mono hb,.inl ⟨by rintro (h | h);exact HK1.out h;exact HK2.out h,rfl⟩⟩
theorem Qd8 (k:Nat) (m:List (BitVec 8)) (l:List Pc) (p:Pc) (h:l[k]?=some p):Qcv k m (l.drop k) =
    if p.k≠1∧p.k≠2 then .error (1,k) else if 20000<(m ++ p.wr).length then .error (4,k) else Qcv (k+1) (m ++ p.wr) (l.drop (k+1)):=by
  obtain ⟨hk,he⟩:=List.getElem?_eq_some_iff.1 h
  rw [List.drop_eq_getElem_cons hk,Qcv,he]
theorem Qq.set2 {w:World} {base g:Nat} {v:Value} {l:List (BitVec 8)} (h:Qq w base v l) (hg:g<base) (x y:Value):Qq ((w.setCell ⟨g,0,none⟩ x).setCell ⟨g,1,none⟩ y) base v l :=
  h.keep fun k hk=>by rw [heap_setCell_other _ _ _ _ (show k≠g by omega),heap_setCell_other _ _ _ _ (show k≠g by omega)]
theorem QhY (l:List Pc) (sv:Value) (N:Nat) (w:World) (hb:JM w N sv l) (hN:N≤w.heap.size) (hlen:l.length<2305843009213693952) (hfit:∀ p∈l,p.fits) :
    Calls Tryz.prog 116 #[sv] w fun e w'=>Below w.heap.size w w' ∧
      ((∃ x v,ZN l=.ok x∧e=.returned (.tuple #[v,okV])∧Qq w' w.heap.size v x) ∨
       ∃ c i,ZN l=.error (c,i)∧e=.returned (.tuple #[.slice none 0 0,J4 c i])):=by
  obtain ⟨oa,ca,rfl,hca⟩:=hb.shape
  obtain ⟨w0,hw0⟩:∃ w0,w.alloc (.cells #[.int .i64 0,.int .i64 0] 136)=w0:=⟨_,rfl⟩
  have hsz0:w0.heap.size=w.heap.size+1:=by rw [← hw0];simp
  have hb0:=bof hw0
  have hrow0:Row w0 w.heap.size 136 [.int .i64 0,.int .i64 0]:=by rw [← hw0];exact Row.new _ _ _
  have HB:=hid (hb.below (hb0.mono hN))
  have HB0:=hid hb0
  have HR0:=hid hrow0
  have HFIT:=hid hfit
  clear hb hb0 hrow0 hfit
  generalize hn:l.length=n at *
  have HN:=hid hn
  clear hn
  by_cases hmany:200<n
  · have e1:decide ((200:Int)<(n:Int))=true:=by simp;omega
    obtain ⟨c0,c1,z0,z1⟩:=HR0.out.two
    go_enter Tryz.func116,Tryz.ntmps116
    go_wp2
    obtain ⟨d0,d1⟩:=HR0.out.set2 (.int .i64 5) (.int .i64 0)
    refine bodyPost_ret (v:=.tuple #[.slice none 0 0,J4 5 0]) (by simp [results,Tryz.results116,go_sem,d0,d1,J4]) rfl ⟨?_,.inr ⟨5,0,by unfold ZN;rw [HN.out,if_pos hmany],rfl⟩⟩
    exact Jp HB0.out (Nat.le_refl _) _ _
  · have e1:decide ((200:Int)<(n:Int))=false:=by simp;omega
    have hwn:IntKind.u64.wrap (n:Int)=(n:Int):=Qcc _ (by omega)
    have HAN:=hid (YI n [] (.slice none 0 0) w0.heap.size w0 (by omega) (Nat.le_refl _) (Qq.nil _ _) (by simp))
    go_enter Tryz.func116,Tryz.ntmps116
    go_wp2_with fail
    refine HAN.out.mono ?_
    rintro e w1 ⟨v1,rfl,hown1,hb1,_⟩
    have HS:=hid (show Qq w1 w0.heap.size v1 (J7 n)∧Below w0.heap.size w0 w1 from ⟨hown1,hb1⟩)
    clear hown1 hb1 HAN hw0
    go_wp2_with fail
    go_loopw [4,18] (fun y i wr=>∃ (k:Nat) (m:List (BitVec 8)),k≤n∧m.length≤20000∧i=.int .i64 (k:Int)∧Hid (Qq wr w0.heap.size y m∧Below w0.heap.size w0 wr∧ZN l=Qcv k m (l.drop k))) (fun _ i _=>n-(intOf i).toNat)
    case atStart=>exact ⟨0,J7 n,by omega,by have:=JD n (by omega);omega,rfl,HS.out.1,HS.out.2,by unfold ZN;rw [HN.out,if_neg hmany];rfl⟩
    case round =>
      obtain ⟨k,m,hk,hm,rfl,HR⟩:=hrel
      obtain ⟨oy,cy,rfl,hcy⟩:=HR.out.1.shape
      by_cases hlt:k<n
      · obtain ⟨p,hp⟩:∃ p,l[k]?=some p:=⟨l[k]'(by rw [HN.out];exact hlt),List.getElem?_eq_getElem _⟩
        obtain ⟨b,o,rfl,hcells⟩:=HB.out.some (by omega)
        obtain ⟨hbN,vb,d0,d1,d2,hvb⟩:=hcells k p hp
        obtain ⟨ob,cb,rfl,hcb⟩:=hvb.shape
        have hbl:b<w0.heap.size:=by omega
        have f0:=(HR.out.2.1.cell (p:=⟨b,o+k*3,none⟩) hbl).trans d0
        have f1:=(HR.out.2.1.cell (p:=⟨b,o+k*3+1,none⟩) hbl).trans d1
        have f2:=(HR.out.2.1.cell (p:=⟨b,o+k*3+2,none⟩) hbl).trans d2
        have hszr:=HR.out.2.1.size
        have hfp:=HFIT.out p (List.mem_of_getElem? hp)
        have HVB:=hid (hvb.below (HR.out.2.1.mono (show N≤w0.heap.size by omega)))
        have HWG:=hid (Qd8 k m l p hp)
        obtain ⟨w2,hw2⟩:∃ w2,wr.alloc (.cells #[.int .i64 p.k,.int .u64 (p.n:Int),.slice ob p.b.length cb] 110)=w2:=⟨_,rfl⟩
        have hb2:Below w0.heap.size wr w2:=by rw [← hw2];exact (Below.refl _ _).alloc hszr _
        have hown2:Qq w2 w0.heap.size (.slice oy m.length cy) m:=by rw [← hw2];exact HR.out.1.alloc _
        have HAP:=hid (Qcq p m (.slice oy m.length cy) (.slice ob p.b.length cb) w0.heap.size N w2 (Nat.le_trans hszr hb2.size) hown2 hm hfp.1 (HVB.out.below (hb2.mono (by omega))) (by omega) hfp.2)
        have HB2:=hid (HR.out.2.1.trans hb2)
        have HW2:=hid hw2
        unfold pcV at HAP
        clear d0 d1 d2 hvb hcells hb2 hown2 hfp hp hw2
        have hlt':(k:Int)<(n:Int):=by omega
        go_wp2_with fail
        rw [HW2.out]
        refine HAP.out.mono ?_
        rintro e w3 ⟨hb3,⟨hkk,rfl⟩ | ⟨hkk,hbig,rfl⟩ | ⟨hkk,hsm,v',rfl,hown3⟩⟩
        · have HB3:=hid (HB2.out.trans hb3)
          have HR3:=hid (HR0.out.below HB3.out (by omega))
          obtain ⟨c0,c1,z0,z1⟩:=HR3.out.two
          go_wp2
          obtain ⟨d0,d1⟩:=HR3.out.set2 (.int .i64 1) (.int .i64 (k:Int))
          refine bodyPost_ret (v:=.tuple #[.slice none 0 0,J4 1 k]) (by simp [results,Tryz.results116,go_sem,d0,d1,J4]) rfl ⟨?_,.inr ⟨1,k,by rw [HR.out.2.2,HWG.out,if_pos (by omega)],rfl⟩⟩
          exact Jp (HB0.out.trans (HB3.out.mono (by omega))) (Nat.le_refl _) _ _
        · have HB3:=hid (HB2.out.trans hb3)
          have HR3:=hid (HR0.out.below HB3.out (by omega))
          obtain ⟨c0,c1,z0,z1⟩:=HR3.out.two
          have HBIG:=hid hbig
          clear hbig
          go_wp2
          obtain ⟨d0,d1⟩:=HR3.out.set2 (.int .i64 4) (.int .i64 (k:Int))
          refine bodyPost_ret (v:=.tuple #[.slice none 0 0,J4 4 k]) (by simp [results,Tryz.results116,go_sem,d0,d1,J4]) rfl ⟨?_,.inr ⟨4,k,by rw [HR.out.2.2,HWG.out,if_neg (by omega),if_pos HBIG.out],rfl⟩⟩
          exact Jp (HB0.out.trans (HB3.out.mono (by omega))) (Nat.le_refl _) _ _
        · have HB3:=hid (HB2.out.trans hb3)
          have HO3:=hid hown3
          have HSM:=hid hsm
          clear hown3 hb3 hsm
          go_wp2_with fail
          refine ⟨⟨k+1,m ++ p.wr,by omega,HSM.out,by go_num,HO3.out,HB3.out,?_⟩,by simp [intOf];omega⟩
          rw [HR.out.2.2,HWG.out,if_neg (by omega),if_neg (by have:=HSM.out;omega)]
      · have hge:decide ((k:Int)<(n:Int))=false:=by simp;omega
        have HR3:=hid (HR0.out.below HR.out.2.1 (by omega))
        obtain ⟨c0,c1,z0,z1⟩:=HR3.out.two
        go_wp2
        obtain ⟨d0,d1⟩:=HR3.out.set2 (.int .i64 0) (.int .i64 0)
        refine bodyPost_ret (v:=.tuple #[.slice oy m.length cy,okV]) (by simp [results,Tryz.results116,go_sem,d0,d1,okV]) rfl ⟨?_,.inl ⟨m,_,by rw [HR.out.2.2,List.drop_eq_nil_of_le (by rw [HN.out];omega),Qcv],rfl,?_⟩⟩
        · exact Jp (HB0.out.trans (HR.out.2.1.mono (by omega))) (Nat.le_refl _) _ _
        · exact (Qq.set2 HR.out.1 (show w.heap.size<w0.heap.size by omega) _ _).mono (by omega)
theorem Qez (l:List Pc) (sv:Value) (N:Nat) (w:World) (hb:JM w N sv l) (hN:N≤w.heap.size) (hlen:l.length<2305843009213693952) (hfit:∀ p∈l,p.fits) :
    Calls Tryz.prog 90 #[sv] w fun e w'=>Below w.heap.size w w' ∧
      ((∃ x v,ZN l=.ok x∧e=.returned (.tuple #[v,okV])∧Qq w' w.heap.size v x) ∨
       ∃ c i,ZN l=.error (c,i)∧e=.returned (.tuple #[.slice none 0 0,J4 c i])):=by
  obtain ⟨oa,ca,rfl,hca⟩:=hb.shape
  obtain ⟨w0,hw0⟩:∃ w0,w.alloc (.cells #[.int .i64 0,.int .i64 0] 136)=w0:=⟨_,rfl⟩
  have hsz0:w0.heap.size=w.heap.size+1:=by rw [← hw0];simp
  have hb0:=bof hw0
  have hrow0:Row w0 w.heap.size 136 [.int .i64 0,.int .i64 0]:=by rw [← hw0];exact Row.new _ _ _
  have HB:=hid (hb.below (hb0.mono hN))
  have HB0:=hid hb0
  have HR0:=hid hrow0
  have HFIT:=hid hfit
  clear hb hb0 hrow0 hfit
  generalize hn:l.length=n at *
  have HN:=hid hn
  clear hn
  by_cases hmany:200<n
  · have e1:decide ((200:Int)<(n:Int))=true:=by simp;omega
    obtain ⟨c0,c1,z0,z1⟩:=HR0.out.two
    go_enter Tryz.func90,Tryz.ntmps90
    go_wp2
    obtain ⟨d0,d1⟩:=HR0.out.set2 (.int .i64 5) (.int .i64 0)
    refine bodyPost_ret (v:=.tuple #[.slice none 0 0,J4 5 0]) (by simp [results,Tryz.results90,go_sem,d0,d1,J4]) rfl ⟨?_,.inr ⟨5,0,by unfold ZN;rw [HN.out,if_pos hmany],rfl⟩⟩
    exact Jp HB0.out (Nat.le_refl _) _ _
  · have e1:decide ((200:Int)<(n:Int))=false:=by simp;omega
    have hwn:IntKind.u64.wrap (n:Int)=(n:Int):=Qcc _ (by omega)
    have HAN:=hid (Qbk n w0 (by omega))
    go_enter Tryz.func90,Tryz.ntmps90
    go_wp2_with fail
    refine HAN.out.mono ?_
    rintro e w1 ⟨v1,rfl,hown1,hb1⟩
    have HS:=hid (show Qq w1 w0.heap.size v1 (J7 n)∧Below w0.heap.size w0 w1 from ⟨hown1,hb1⟩)
    clear hown1 hb1 HAN hw0
    go_wp2_with fail
    go_loopw [4,17] (fun y i wr=>∃ (k:Nat) (m:List (BitVec 8)),k≤n∧m.length≤20000∧i=.int .i64 (k:Int)∧Hid (Qq wr w0.heap.size y m∧Below w0.heap.size w0 wr∧ZN l=Qcv k m (l.drop k))) (fun _ i _=>n-(intOf i).toNat)
    case atStart=>exact ⟨0,J7 n,by omega,by have:=JD n (by omega);omega,rfl,HS.out.1,HS.out.2,by unfold ZN;rw [HN.out,if_neg hmany];rfl⟩
    case round =>
      obtain ⟨k,m,hk,hm,rfl,HR⟩:=hrel
      obtain ⟨ov,cv,rfl,hcv⟩:=HR.out.1.shape
      by_cases hlt:k<n
      · obtain ⟨p,hp⟩:∃ p,l[k]?=some p:=⟨l[k]'(by rw [HN.out];exact hlt),List.getElem?_eq_getElem _⟩
        obtain ⟨b,o,rfl,hcells⟩:=HB.out.some (by omega)
        obtain ⟨hbN,vb,d0,d1,d2,hvb⟩:=hcells k p hp
        obtain ⟨ob,cb,rfl,hcb⟩:=hvb.shape
        have hbl:b<w0.heap.size:=by omega
        have f0:=(HR.out.2.1.cell (p:=⟨b,o+k*3,none⟩) hbl).trans d0
        have f1:=(HR.out.2.1.cell (p:=⟨b,o+k*3+1,none⟩) hbl).trans d1
        have f2:=(HR.out.2.1.cell (p:=⟨b,o+k*3+2,none⟩) hbl).trans d2
        have hszr:=HR.out.2.1.size
        have hfp:=HFIT.out p (List.mem_of_getElem? hp)
        have hpk:p.n<18446744073709551616:=hfp.1
        have hpl:=hfp.2
        have HWG:=hid (Qd8 k m l p hp)
        obtain ⟨w2,hw2⟩:∃ w2,wr.alloc (.cells #[.int .i64 p.k,.int .u64 (p.n:Int),.slice ob p.b.length cb] 110)=w2:=⟨_,rfl⟩
        have hsz2:w2.heap.size=wr.heap.size+1:=by rw [← hw2];simp
        have hb2:Below w0.heap.size wr w2:=by rw [← hw2];exact (Below.refl _ _).alloc hszr _
        have hrow2:Row w2 wr.heap.size 110 [.int .i64 p.k,.int .u64 (p.n:Int),.slice ob p.b.length cb]:=by rw [← hw2];exact Row.new _ _ _
        obtain ⟨q0,q1,q2,_,_,_⟩:=hrow2.three
        have HO2:=hid (show Qq w2 w0.heap.size (.slice ov m.length cv) m by rw [← hw2];exact HR.out.1.alloc _)
        have HB2:=hid (HR.out.2.1.trans hb2)
        have HVB2:=hid (hvb.below (HB2.out.mono (show N≤w0.heap.size by omega)))
        have HR2:=hid hrow2
        have HW2:=hid hw2
        clear d0 d1 d2 hvb hcells hb2 hrow2 hfp hp hw2
        have hlt':(k:Int)<(n:Int):=by omega
        by_cases hk1:p.k=1
        · have e1':(p.k == 1)=true:=by simp [hk1]
          have HK:=hid hk1
          clear hk1
          have HA1:=hid (show Qq (w2.alloc (.cells #[.int .u8 0] 5)).drew w0.heap.size (.slice ov m.length cv) m from HO2.out.alloc _)
          have HA2:=hid (show Bytes (w2.alloc (.cells #[.int .u8 0] 5)).drew (w2.heap.size+1) (.slice (some ⟨wr.heap.size+1,0,none⟩) 1 1) [0] by rw [← hsz2];exact (Yj w2 [0] 5 (0,0) 1 (by simp)).drewN 1)
          have HA3:=hid (show m.length+[(0:BitVec 8)].length≤140737488355328 by simp;omega)
          have HA4:=hid (show w0.heap.size≤((w2.alloc (.cells #[.int .u8 0] 5)).drew).heap.size by show w0.heap.size≤(w2.alloc (.cells #[.int .u8 0] 5)).heap.size;simp;omega)
          have HA5:=hid (show Row ((w2.alloc (.cells #[.int .u8 0] 5)).drew) wr.heap.size 110 [.int .i64 p.k,.int .u64 (p.n:Int),.slice ob p.b.length cb] from (HR2.out.alloc _))
          obtain ⟨l1,hl1⟩:∃ l1,m ++ [0]=l1:=⟨_,rfl⟩
          obtain ⟨l2,hl2⟩:∃ l2,l1 ++ J7 p.n=l2:=⟨_,rfl⟩
          have HL1:=hid hl1
          have HL2:=hid hl2
          have hl1l:l1.length≤1000000:=by rw [← hl1];simp;omega
          have hl2e:l2=m ++ p.wr:=by rw [← hl2,← hl1];simp [Pc.wr,HK.out]
          have hl2l:l2.length≤1000000:=by have:=JD p.n hpk;rw [← hl2,← hl1];simp;omega
          have HE2:=hid hl2e
          have HLL:=hid (show l1.length+(J7 p.n).length≤140737488355328 by have:=JD p.n hpk;omega)
          have HPK:=hid hpk
          clear hl1 hl2 hl2e hl1l hpk
          go_wp2_with fail
          rw [HW2.out]
          go_region_law (first
            | (refine Jg rfl (.tmp 28) (.tmp 29) rfl w0.heap.size (.slice ov m.length cv) m ?_ HA1.out (.slice (some ⟨wr.heap.size+1,0,none⟩) 1 1) [0] ?_ HA2.out HA3.out HA4.out ?_;rfl;rfl;intro v1 w3 hown1 hbe1 hke1;rw [HL1.out] at hown1;obtain ⟨o1,k1,rfl,hk1⟩:=hown1.shape;have HR1:=hid (hke1.row HA5.out (by decide));have c1':=HR1.out.cell 1;have HO1:=hid hown1;have HBE1:=hid hbe1;clear hown1 hbe1 hke1)
            | (go_simp;go_at_call 109;refine (Qbk p.n w3 HPK.out).mono ?_;rintro e w4 ⟨v2,rfl,hown2,hbe2⟩;obtain ⟨o2,k2,rfl,hk2⟩:=hown2.shape;have HN2:=hid hown2.bytes;have HO2':=hid (HO1.out.below hbe2);have HBE2:=hid (HBE1.out.trans (hbe2.mono (Nat.le_trans HA4.out HBE1.out.size)));have HSZ4:=hid (Nat.le_trans HA4.out HBE2.out.size);clear hown2 hbe2)
            | (refine Jg rfl (.tmp 30) (.tmp 33) rfl w0.heap.size (.slice o1 l1.length k1) l1 ?_ HO2'.out (.slice o2 (J7 p.n).length k2) (J7 p.n) ?_ HN2.out HLL.out HSZ4.out ?_;rfl;rfl;intro v3 w5 hown3 hbe3 hke3;rw [HL2.out] at hown3;obtain ⟨o3,k3,rfl,hk3⟩:=hown3.shape;have HO3:=hid hown3;have HBE3:=hid (HBE2.out.trans hbe3);clear hown3 hbe3 hke3))
          all_goals
            have HBZ:=hid (HB2.out.trans ((((Below.refl w0.heap.size w2).alloc (show w0.heap.size≤w2.heap.size by omega) (.cells #[.int .u8 0] 5)).drew).trans HBE3.out))
            by_cases hbig:20000<l2.length
            · have e3:decide ((20000:Int)<(l2.length:Int))=true:=by simp;omega
              have HR3:=hid (HR0.out.below HBZ.out (by omega))
              obtain ⟨c0,c1,z0,z1⟩:=HR3.out.two
              go_wp2
              obtain ⟨d0,d1⟩:=HR3.out.set2 (.int .i64 4) (.int .i64 (k:Int))
              refine bodyPost_ret (v:=.tuple #[.slice none 0 0,J4 4 k]) (by simp [results,Tryz.results90,go_sem,d0,d1,J4]) rfl ⟨?_,.inr ⟨4,k,by rw [HR.out.2.2,HWG.out,if_neg (by have:=HK.out;omega),if_pos (by rw [← HE2.out];exact hbig)],rfl⟩⟩
              exact Jp (HB0.out.trans (HBZ.out.mono (by omega))) (Nat.le_refl _) _ _
            · have e3:decide ((20000:Int)<(l2.length:Int))=false:=by simp;omega
              go_wp2_with fail
              refine ⟨⟨k+1,l2,by omega,by omega,by go_num,HO3.out,HBZ.out,?_⟩,by simp [intOf];omega⟩
              rw [HR.out.2.2,HWG.out,if_neg (by have:=HK.out;omega),if_neg (by rw [← HE2.out];omega),← HE2.out]
        · have e1':(p.k == 1)=false:=by simp [hk1]
          by_cases hk2:p.k=2
          · have e2':(p.k == 2)=true:=by simp [hk2]
            have HK:=hid hk2
            clear hk1 hk2
            have hwb:IntKind.u64.wrap (p.b.length:Int)=(p.b.length:Int):=Qcc _ (by omega)
            have HA1:=hid (show Qq (w2.alloc (.cells #[.int .u8 1] 5)).drew w0.heap.size (.slice ov m.length cv) m from HO2.out.alloc _)
            have HA2:=hid (show Bytes (w2.alloc (.cells #[.int .u8 1] 5)).drew (w2.heap.size+1) (.slice (some ⟨wr.heap.size+1,0,none⟩) 1 1) [1] by rw [← hsz2];exact (Yj w2 [1] 5 (0,0) 1 (by simp)).drewN 1)
            have HA3:=hid (show m.length+[(1:BitVec 8)].length≤140737488355328 by simp;omega)
            have HA4:=hid (show w0.heap.size≤((w2.alloc (.cells #[.int .u8 1] 5)).drew).heap.size by show w0.heap.size≤(w2.alloc (.cells #[.int .u8 1] 5)).heap.size;simp;omega)
            have HA5:=hid (show Row ((w2.alloc (.cells #[.int .u8 1] 5)).drew) wr.heap.size 110 [.int .i64 p.k,.int .u64 (p.n:Int),.slice ob p.b.length cb] from (HR2.out.alloc _))
            have HA6:=hid (((Below.refl w0.heap.size w2).alloc (show w0.heap.size≤w2.heap.size by omega) (.cells #[.int .u8 1] 5)).drew)
            obtain ⟨l1,hl1⟩:∃ l1,m ++ [1]=l1:=⟨_,rfl⟩
            obtain ⟨l2,hl2⟩:∃ l2,l1 ++ J7 p.b.length=l2:=⟨_,rfl⟩
            have HPK:=hid (show p.b.length<18446744073709551616 by omega)
            have HL1:=hid hl1
            have HL2:=hid hl2
            have hl1l:l1.length≤1000000:=by rw [← hl1];simp;omega
            have hl2e:l2 ++ p.b=m ++ p.wr:=by rw [← hl2,← hl1];simp [Pc.wr,HK.out]
            have hl2l:l2.length≤1000000:=by have:=JD p.b.length HPK.out;rw [← hl2,← hl1];simp;omega
            have HE2:=hid hl2e
            have HLL:=hid (show l1.length+(J7 p.b.length).length≤140737488355328 by have:=JD p.b.length HPK.out;omega)
            have HL2L:=hid hl2l
            have HPL:=hid (show p.b.length≤140737488355328 by omega)
            have HNB:=hid (show N≤w0.heap.size by omega)
            clear hl1 hl2 hl2e hl1l
            go_wp2_with fail
            rw [HW2.out]
            have s0:w2.drew.cell? ⟨wr.heap.size,2,none⟩=some (.slice ob p.b.length cb):=q2
            have s1:(w2.alloc (.cells #[.int .u8 1] 5)).drew.cell? ⟨wr.heap.size,2,none⟩=some (.slice ob p.b.length cb):=HA5.out.cell 2
            go_region_held3 (fun wx=>wx.cell? ⟨wr.heap.size,2,none⟩=some (.slice ob p.b.length cb)) (first | assumption) (first
              | (refine Jg rfl (.tmp 37) (.tmp 38) rfl w0.heap.size (.slice ov m.length cv) m ?_ HA1.out (.slice (some ⟨wr.heap.size+1,0,none⟩) 1 1) [1] ?_ HA2.out HA3.out HA4.out ?_;rfl;rfl;intro v1 w3 hown1 hbe1 hke1;rw [HL1.out] at hown1;obtain ⟨o1,k1,rfl,hk1⟩:=hown1.shape;have HR1:=hid (hke1.row HA5.out (by decide));have c2':=HR1.out.cell 2;have HO1:=hid hown1;have HBE1:=hid hbe1;clear hown1 hbe1 hke1)
              | (go_at_call 109;refine (Qbk p.b.length w3 HPK.out).mono ?_;rintro e w4 ⟨v2,rfl,hown2,hbe2⟩;obtain ⟨o2,k2,rfl,hk2⟩:=hown2.shape;have HN2:=hid hown2.bytes;have HO2':=hid (HO1.out.below hbe2);have HR4:=hid (HR1.out.below hbe2 HR1.out.lt);have c3':=HR4.out.cell 2;have HBE2:=hid (HBE1.out.trans (hbe2.mono (Nat.le_trans HA4.out HBE1.out.size)));have HSZ4:=hid (Nat.le_trans HA4.out HBE2.out.size);clear hown2 hbe2)
              | (refine Jg rfl (.tmp 39) (.tmp 44) rfl w0.heap.size (.slice o1 l1.length k1) l1 ?_ HO2'.out (.slice o2 (J7 p.b.length).length k2) (J7 p.b.length) ?_ HN2.out HLL.out HSZ4.out ?_;rfl;rfl;intro v3 w5 hown3 hbe3 hke3;rw [HL2.out] at hown3;obtain ⟨o3,k3,rfl,hk3⟩:=hown3.shape;have HO3:=hid hown3;have HBE3:=hid (HBE2.out.trans hbe3);have HR5:=hid (hke3.row HR4.out (by decide));have c4':=HR5.out.cell 2;have HVB5:=hid (HVB2.out.below ((HA6.out.trans HBE3.out).mono HNB.out));have HSZ5:=hid (Nat.le_trans HA4.out HBE3.out.size);clear hown3 hbe3 hke3)
              | (refine Qb8 rfl (.tmp 45) (.tmp 47) rfl w0.heap.size (.slice o3 l2.length k3) l2 ?_ HO3.out (.slice ob p.b.length cb) p.b ?_ HVB5.out HL2L.out HPL.out HSZ5.out ?_;rfl;rfl;intro o6 k6 w6 hbe6 hke6 hown6;have s6:=(hke6.row HR5.out (by decide)).cell 2;have HBE6:=hid (HBE3.out.trans hbe6);have HO6:=hid hown6;clear hbe6 hown6 hke6))
            all_goals
              have HBZ:=hid (HB2.out.trans (HA6.out.trans HBE6.out))
              generalize hL:l2.length+p.b.length=L at *
              have HL:=hid hL
              by_cases hbig:20000<L
              · have e3:decide ((20000:Int)<(L:Int))=true:=by simp;omega
                have HR3:=hid (HR0.out.below HBZ.out (by omega))
                obtain ⟨c0,c1,z0,z1⟩:=HR3.out.two
                clear hL
                go_wp2
                obtain ⟨d0,d1⟩:=HR3.out.set2 (.int .i64 4) (.int .i64 (k:Int))
                refine bodyPost_ret (v:=.tuple #[.slice none 0 0,J4 4 k]) (by simp [results,Tryz.results90,go_sem,d0,d1,J4]) rfl ⟨?_,.inr ⟨4,k,by rw [HR.out.2.2,HWG.out,if_neg (by have:=HK.out;omega),if_pos (by rw [← HE2.out,List.length_append,HL.out];exact hbig)],rfl⟩⟩
                exact Jp (HB0.out.trans (HBZ.out.mono (by omega))) (Nat.le_refl _) _ _
              · have e3:decide ((20000:Int)<(L:Int))=false:=by simp;omega
                have HO7:=hid (HO6.out (by omega))
                clear hL HO6
                go_wp2_with fail
                refine ⟨⟨k+1,l2 ++ p.b,by omega,by rw [List.length_append,HL.out];omega,by go_num,HO7.out,HBZ.out,?_⟩,by simp [intOf];omega⟩
                rw [HR.out.2.2,HWG.out,if_neg (by have:=HK.out;omega),if_neg (by rw [← HE2.out,List.length_append,HL.out];omega),← HE2.out]
          · have e2':(p.k == 2)=false:=by simp [hk2]
            have HR3:=hid (HR0.out.below HR.out.2.1 (by omega))
            obtain ⟨c0,c1,z0,z1⟩:=HR3.out.two
            have HKK:=hid (show p.k≠1∧p.k≠2 from ⟨hk1,hk2⟩)
            have hlt0:w.heap.size<wr.heap.size:=by omega
            have hne0:w.heap.size≠wr.heap.size:=by omega
            have hne1:wr.heap.size≠w.heap.size:=by omega
            clear hk1 hk2
            go_wp2_with fail
            have hrw:=((HR3.out.set 0 (.int .i64 1)).set 1 (.int .i64 (k:Int))).alloc (.cells #[.int .i64 p.k,.int .u64 (p.n:Int),.slice ob p.b.length cb] 110)
            have d0:=hrw.cell 0
            have d1:=hrw.cell 1
            refine bodyPost_ret (v:=.tuple #[.slice none 0 0,J4 1 k]) (by simp [results,Tryz.results90,go_sem,d0,d1,J4]) rfl ⟨?_,.inr ⟨1,k,by rw [HR.out.2.2,HWG.out,if_pos HKK.out],rfl⟩⟩
            exact (Jp (HB0.out.trans (HR.out.2.1.mono (by omega))) (Nat.le_refl _) _ _).alloc (by simp;omega) _
      · have hge:decide ((k:Int)<(n:Int))=false:=by simp;omega
        have HR3:=hid (HR0.out.below HR.out.2.1 (by omega))
        obtain ⟨c0,c1,z0,z1⟩:=HR3.out.two
        go_wp2
        obtain ⟨d0,d1⟩:=HR3.out.set2 (.int .i64 0) (.int .i64 0)
        refine bodyPost_ret (v:=.tuple #[.slice ov m.length cv,okV]) (by simp [results,Tryz.results90,go_sem,d0,d1,okV]) rfl ⟨?_,.inl ⟨m,_,by rw [HR.out.2.2,List.drop_eq_nil_of_le (by rw [HN.out];omega),Qcv],rfl,?_⟩⟩
        · exact Jp (HB0.out.trans (HR.out.2.1.mono (by omega))) (Nat.le_refl _) _ _
        · exact (Qq.set2 HR.out.1 (show w.heap.size<w0.heap.size by omega) _ _).mono (by omega)
end Go.Proofs.YtbgdpfeobklnhaaGreatDoor
