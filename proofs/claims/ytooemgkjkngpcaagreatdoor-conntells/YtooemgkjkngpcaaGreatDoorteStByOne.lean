/-
  What package state's oneByOne answers: what is wrong with the first entry that is wrong.
-/
import Derived.Test.YtooemgkjkngpcaaGreatDoorProg
import Derived.Test.YtooemgkjkngpcaaGreatDoorteCoMath
import Derived.Test.YtooemgkjkngpcaaGreatDoorteRegions
import Derived.Test.YtooemgkjkngpcaaGreatDoorteClAsk
import Derived.Shelf.Strconv.AppendIntPublic10
import Derived.Shelf.Small.Strs
import Derived.Ground.NamesProg
import Derived.Deep.RegionHeld3
import Derived.Deep.RegionWith
namespace Go.Proofs.YtooemgkjkngpcaaGreatDoor
set_option maxRecDepth 1000000
set_option maxHeartbeats 8000000
open Go.RowKit
theorem QI (lo n:Int) (w:World):Calls Tryz.prog 26 #[.int .i64 lo,.int .i64 n] w fun e w'=>e=.returned (.bool (Qg lo n))∧w'=w:=by
 unfold Qg
 by_cases h1:lo≤n
 ·have e1:decide (lo≤n)=true:=by simpa using h1
  go_enter Tryz.func26,Tryz.ntmps26
  go_wp2
  go_ret
  exact ⟨by simp [e1];first | done | rfl,rfl⟩
 ·have e1:decide (lo≤n)=false:=by simpa using h1
  go_enter Tryz.func26,Tryz.ntmps26
  go_wp2
  go_ret
  exact ⟨by simp;first | done | rfl | (simp [e1];first | done | rfl),rfl⟩
theorem Qai (s:ByteArray) (w:World):Calls Tryz.prog 78 #[.string s] w fun e w'=>e=.returned (.bool (Qbx s))∧w'=w:=by
 unfold Qbx
 by_cases h1:1≤s.size
 ·have e1:decide ((1:Int)≤(s.size:Int))=true:=by simp;omega
  have e1':decide (1≤s.size)=true:=by simpa using h1
  by_cases h2:s.size≤40
  ·have e2:decide ((s.size:Int)≤40)=true:=by simp;omega
   have e2':decide (s.size≤40)=true:=by simpa using h2
   clear h1 h2
   go_enter Tryz.func78,Tryz.ntmps78
   go_wp2
   go_ret
   exact ⟨by rw [e1',e2'];first | done | rfl,rfl⟩
  ·have e2:decide ((s.size:Int)≤40)=false:=by simp;omega
   have e2':decide (s.size≤40)=false:=by simpa using h2
   clear h1 h2
   go_enter Tryz.func78,Tryz.ntmps78
   go_wp2
   go_ret
   exact ⟨by rw [e1',e2'];first | done | rfl,rfl⟩
 ·have e1:decide ((1:Int)≤(s.size:Int))=false:=by simp;omega
  have e1':decide (1≤s.size)=false:=by simpa using h1
  clear h1
  go_enter Tryz.func78,Tryz.ntmps78
  go_wp2
  go_ret
  exact ⟨by rw [e1'];first | done | rfl,rfl⟩
theorem Qc6 (c:Cn) (w:World) :
  Calls Tryz.prog 32 #[.agg #[.int .i64 c.state,.int .i64 c.client,.int .i64 c.oclient,.int .i64 c.oconn]] w fun e w'=>e=.returned (.int .i64 (Qk c))∧Below w.heap.size w w':=by
 obtain ⟨w0,hw0⟩:∃ w0,w.alloc (.cells #[.int .i64 c.state,.int .i64 c.client,.int .i64 c.oclient,.int .i64 c.oconn] 58)=w0:=⟨_,rfl⟩
 have HB0:=hid (show Below w.heap.size w w0 by rw [← hw0];exact (Below.refl _ _).alloc (Nat.le_refl _) _)
 have hr0:=(show Row w0 w.heap.size 58 [.int .i64 c.state,.int .i64 c.client,.int .i64 c.oclient,.int .i64 c.oconn] by rw [← hw0];exact Row.new _ _ _)
 have k0:=hr0.cell 0
 have k1:=hr0.cell 1
 have k2:=hr0.cell 2
 have k3:=hr0.cell 3
 clear hr0
 by_cases q0:c.state<1
 ·have e0:decide (c.state<1)=true:=by simp;omega
  have HW:=hid (show Qk c=1 by unfold Qk;simp [*])
  clear q0
  go_enter Tryz.func32,Tryz.ntmps32
  go_wp2
  go_ret
  exact ⟨by rw [HW.out];first | done | rfl,HB0.out⟩
 ·have e0:decide (c.state<1)=false:=by simp;omega
  by_cases q1:3<c.state
  ·have e1:decide (3<c.state)=true:=by simp;omega
   have HW:=hid (show Qk c=1 by unfold Qk;simp [*])
   clear q0 q1
   go_enter Tryz.func32,Tryz.ntmps32
   go_wp2
   go_ret
   exact ⟨by rw [HW.out];first | done | rfl,HB0.out⟩
  ·have e1:decide (3<c.state)=false:=by simp;omega
   cases q2:Qg 0 c.client with
   | false =>
    have H2:=hid q2
    have HW:=hid (show Qk c=3 by unfold Qk;simp [*])
    clear q0 q1 q2
    go_enter Tryz.func32,Tryz.ntmps32
    go_wp2_with (first | (go_at_call 26;refine (QI _ _ _).mono ?_;rintro e w' ⟨rfl,rfl⟩;first | rw [H2.out]))
    go_ret
    exact ⟨by rw [HW.out];first | done | rfl,HB0.out⟩
   | true =>
    have H2:=hid q2
    cases q3:Qg 0 c.oclient with
    | false =>
     have H3:=hid q3
     have HW:=hid (show Qk c=3 by unfold Qk;simp [*])
     clear q0 q1 q2 q3
     go_enter Tryz.func32,Tryz.ntmps32
     go_wp2_with (first | (go_at_call 26;refine (QI _ _ _).mono ?_;rintro e w' ⟨rfl,rfl⟩;first | rw [H2.out] | rw [H3.out]))
     go_ret
     exact ⟨by rw [HW.out];first | done | rfl,HB0.out⟩
    | true =>
     have H3:=hid q3
     cases q4:Qg (-1) c.oconn with
     | false =>
      have H4:=hid q4
      have HW:=hid (show Qk c=3 by unfold Qk;simp [*])
      clear q0 q1 q2 q3 q4
      go_enter Tryz.func32,Tryz.ntmps32
      go_wp2_with (first | (go_at_call 26;refine (QI _ _ _).mono ?_;rintro e w' ⟨rfl,rfl⟩;first | rw [H2.out] | rw [H3.out] | rw [H4.out]))
      go_ret
      exact ⟨by rw [HW.out];first | done | rfl,HB0.out⟩
     | true =>
      have H4:=hid q4
      have HW:=hid (show Qk c=0 by unfold Qk;simp [*])
      clear q0 q1 q2 q3 q4
      go_enter Tryz.func32,Tryz.ntmps32
      go_wp2_with (first | (go_at_call 26;refine (QI _ _ _).mono ?_;rintro e w' ⟨rfl,rfl⟩;first | rw [H2.out] | rw [H3.out] | rw [H4.out]))
      go_ret
      exact ⟨by rw [HW.out];first | done | rfl,HB0.out⟩
theorem Qdb (c:Ch) (w:World) :
  Calls Tryz.prog 34 #[.agg #[.int .i64 c.state,.bool c.ordered,.int .i64 c.conn,.int .i64 c.ochan,.int .i64 c.send,.int .i64 c.recv,.int .i64 c.ack]] w fun e w'=>e=.returned (.int .i64 (Ql c))∧Below w.heap.size w w':=by
 obtain ⟨w0,hw0⟩:∃ w0,w.alloc (.cells #[.int .i64 c.state,.bool c.ordered,.int .i64 c.conn,.int .i64 c.ochan,.int .i64 c.send,.int .i64 c.recv,.int .i64 c.ack] 75)=w0:=⟨_,rfl⟩
 have HB0:=hid (show Below w.heap.size w w0 by rw [← hw0];exact (Below.refl _ _).alloc (Nat.le_refl _) _)
 have hr0:=(show Row w0 w.heap.size 75 [.int .i64 c.state,.bool c.ordered,.int .i64 c.conn,.int .i64 c.ochan,.int .i64 c.send,.int .i64 c.recv,.int .i64 c.ack] by rw [← hw0];exact Row.new _ _ _)
 have k0:=hr0.cell 0
 have k1:=hr0.cell 1
 have k2:=hr0.cell 2
 have k3:=hr0.cell 3
 have k4:=hr0.cell 4
 have k5:=hr0.cell 5
 have k6:=hr0.cell 6
 clear hr0
 by_cases q0:c.state<1
 ·have e0:decide (c.state<1)=true:=by simp;omega
  have HW:=hid (show Ql c=1 by unfold Ql;simp [*])
  clear q0
  go_enter Tryz.func34,Tryz.ntmps34
  go_wp2
  go_ret
  exact ⟨by rw [HW.out];first | done | rfl,HB0.out⟩
 ·have e0:decide (c.state<1)=false:=by simp;omega
  by_cases q1:4<c.state
  ·have e1:decide (4<c.state)=true:=by simp;omega
   have HW:=hid (show Ql c=1 by unfold Ql;simp [*])
   clear q0 q1
   go_enter Tryz.func34,Tryz.ntmps34
   go_wp2
   go_ret
   exact ⟨by rw [HW.out];first | done | rfl,HB0.out⟩
  ·have e1:decide (4<c.state)=false:=by simp;omega
   cases q2:Qg 0 c.conn with
   | false =>
    have H2:=hid q2
    have HW:=hid (show Ql c=3 by unfold Ql;simp [*])
    clear q0 q1 q2
    go_enter Tryz.func34,Tryz.ntmps34
    go_wp2_with (first | (go_at_call 26;refine (QI _ _ _).mono ?_;rintro e w' ⟨rfl,rfl⟩;first | rw [H2.out]))
    go_ret
    exact ⟨by rw [HW.out];first | done | rfl,HB0.out⟩
   | true =>
    have H2:=hid q2
    cases q3:Qg (-1) c.ochan with
    | false =>
     have H3:=hid q3
     have HW:=hid (show Ql c=3 by unfold Ql;simp [*])
     clear q0 q1 q2 q3
     go_enter Tryz.func34,Tryz.ntmps34
     go_wp2_with (first | (go_at_call 26;refine (QI _ _ _).mono ?_;rintro e w' ⟨rfl,rfl⟩;first | rw [H2.out] | rw [H3.out]))
     go_ret
     exact ⟨by rw [HW.out];first | done | rfl,HB0.out⟩
    | true =>
     have H3:=hid q3
     cases q4:Qg 1 c.send with
     | false =>
      have H4:=hid q4
      have HW:=hid (show Ql c=3 by unfold Ql;simp [*])
      clear q0 q1 q2 q3 q4
      go_enter Tryz.func34,Tryz.ntmps34
      go_wp2_with (first | (go_at_call 26;refine (QI _ _ _).mono ?_;rintro e w' ⟨rfl,rfl⟩;first | rw [H2.out] | rw [H3.out] | rw [H4.out]))
      go_ret
      exact ⟨by rw [HW.out];first | done | rfl,HB0.out⟩
     | true =>
      have H4:=hid q4
      cases q5:Qg 1 c.recv with
      | false =>
       have H5:=hid q5
       have HW:=hid (show Ql c=3 by unfold Ql;simp [*])
       clear q0 q1 q2 q3 q4 q5
       go_enter Tryz.func34,Tryz.ntmps34
       go_wp2_with (first | (go_at_call 26;refine (QI _ _ _).mono ?_;rintro e w' ⟨rfl,rfl⟩;first | rw [H2.out] | rw [H3.out] | rw [H4.out] | rw [H5.out]))
       go_ret
       exact ⟨by rw [HW.out];first | done | rfl,HB0.out⟩
      | true =>
       have H5:=hid q5
       cases q6:Qg 1 c.ack with
       | false =>
        have H6:=hid q6
        have HW:=hid (show Ql c=3 by unfold Ql;simp [*])
        clear q0 q1 q2 q3 q4 q5 q6
        go_enter Tryz.func34,Tryz.ntmps34
        go_wp2_with (first | (go_at_call 26;refine (QI _ _ _).mono ?_;rintro e w' ⟨rfl,rfl⟩;first | rw [H2.out] | rw [H3.out] | rw [H4.out] | rw [H5.out] | rw [H6.out]))
        go_ret
        exact ⟨by rw [HW.out];first | done | rfl,HB0.out⟩
       | true =>
        have H6:=hid q6
        have HW:=hid (show Ql c=0 by unfold Ql;simp [*])
        clear q0 q1 q2 q3 q4 q5 q6
        go_enter Tryz.func34,Tryz.ntmps34
        go_wp2_with (first | (go_at_call 26;refine (QI _ _ _).mono ?_;rintro e w' ⟨rfl,rfl⟩;first | rw [H2.out] | rw [H3.out] | rw [H4.out] | rw [H5.out] | rw [H6.out]))
        go_ret
        exact ⟨by rw [HW.out];first | done | rfl,HB0.out⟩
theorem Qdh (m:Mk) (od:Option Addr) (cd:Nat) (w:World) :
  Calls Tryz.prog 37 #[.agg #[.int .i64 m.chan,.int .i64 m.seq,.slice od m.dig.length cd]] w fun e w'=>e=.returned (.int .i64 (QB m))∧Below w.heap.size w w':=by
 obtain ⟨w0,hw0⟩:∃ w0,w.alloc (.cells #[.int .i64 m.chan,.int .i64 m.seq,.slice od m.dig.length cd] 79)=w0:=⟨_,rfl⟩
 have HB0:=hid (show Below w.heap.size w w0 by rw [← hw0];exact (Below.refl _ _).alloc (Nat.le_refl _) _)
 have hr0:=(show Row w0 w.heap.size 79 [.int .i64 m.chan,.int .i64 m.seq,.slice od m.dig.length cd] by rw [← hw0];exact Row.new _ _ _)
 have k0:=hr0.cell 0
 have k1:=hr0.cell 1
 have k2:=hr0.cell 2
 clear hr0
 cases q0:Qg 0 m.chan with
 | false =>
  have H0:=hid q0
  have HW:=hid (show QB m=3 by unfold QB;simp [*])
  clear q0
  go_enter Tryz.func37,Tryz.ntmps37
  go_wp2_with (first | (go_at_call 26;refine (QI _ _ _).mono ?_;rintro e w' ⟨rfl,rfl⟩;first | rw [H0.out]))
  go_ret
  exact ⟨by rw [HW.out];first | done | rfl,HB0.out⟩
 | true =>
  have H0:=hid q0
  cases q1:Qg 1 m.seq with
  | false =>
   have H1:=hid q1
   have HW:=hid (show QB m=3 by unfold QB;simp [*])
   clear q0 q1
   go_enter Tryz.func37,Tryz.ntmps37
   go_wp2_with (first | (go_at_call 26;refine (QI _ _ _).mono ?_;rintro e w' ⟨rfl,rfl⟩;first | rw [H0.out] | rw [H1.out]))
   go_ret
   exact ⟨by rw [HW.out];first | done | rfl,HB0.out⟩
  | true =>
   have H1:=hid q1
   by_cases q2:m.dig.length≠32
   ·have e2:((m.dig.length:Int) != 32)=true:=by simp;omega
    have HW:=hid (show QB m=2 by unfold QB;simp [*])
    clear q0 q1 q2
    go_enter Tryz.func37,Tryz.ntmps37
    go_wp2_with (first | (go_at_call 26;refine (QI _ _ _).mono ?_;rintro e w' ⟨rfl,rfl⟩;first | rw [H0.out] | rw [H1.out]))
    go_ret
    exact ⟨by rw [HW.out];first | done | rfl,HB0.out⟩
   ·have e2:((m.dig.length:Int) != 32)=false:=by simp;omega
    have HW:=hid (show QB m=0 by unfold QB;simp [*])
    clear q0 q1 q2
    go_enter Tryz.func37,Tryz.ntmps37
    go_wp2_with (first | (go_at_call 26;refine (QI _ _ _).mono ?_;rintro e w' ⟨rfl,rfl⟩;first | rw [H0.out] | rw [H1.out]))
    go_ret
    exact ⟨by rw [HW.out];first | done | rfl,HB0.out⟩
theorem QcY (p:Pu) (w:World) :
  Calls Tryz.prog 41 #[.agg #[.string p.owner,.string p.denom,.int .u64 (p.amount:Int)]] w fun e w'=>e=.returned (.int .i64 (QD p))∧Below w.heap.size w w':=by
 obtain ⟨w0,hw0⟩:∃ w0,w.alloc (.cells #[.string p.owner,.string p.denom,.int .u64 (p.amount:Int)] 86)=w0:=⟨_,rfl⟩
 have HB0:=hid (show Below w.heap.size w w0 by rw [← hw0];exact (Below.refl _ _).alloc (Nat.le_refl _) _)
 have hr0:=(show Row w0 w.heap.size 86 [.string p.owner,.string p.denom,.int .u64 (p.amount:Int)] by rw [← hw0];exact Row.new _ _ _)
 have k0:=hr0.cell 0
 have k1:=hr0.cell 1
 have k2:=hr0.cell 2
 clear hr0
 cases q0:Qbx p.owner with
 | false =>
  have H0:=hid q0
  have HW:=hid (show QD p=4 by unfold QD;simp [*])
  clear q0
  go_enter Tryz.func41,Tryz.ntmps41
  go_wp2_with (first | (go_at_call 78;refine (Qai _ _).mono ?_;rintro e w' ⟨rfl,rfl⟩;first | rw [H0.out]))
  go_ret
  exact ⟨by rw [HW.out];first | done | rfl,HB0.out⟩
 | true =>
  have H0:=hid q0
  cases q1:Qbx p.denom with
  | false =>
   have H1:=hid q1
   have HW:=hid (show QD p=4 by unfold QD;simp [*])
   clear q0 q1
   go_enter Tryz.func41,Tryz.ntmps41
   go_wp2_with (first | (go_at_call 78;refine (Qai _ _).mono ?_;rintro e w' ⟨rfl,rfl⟩;first | rw [H0.out] | rw [H1.out]))
   go_ret
   exact ⟨by rw [HW.out];first | done | rfl,HB0.out⟩
  | true =>
   have H1:=hid q1
   by_cases q2:p.amount=0
   ·have e2:((p.amount:Int) == 0)=true:=by simp;omega
    have HW:=hid (show QD p=3 by unfold QD;simp [*])
    clear q0 q1 q2
    go_enter Tryz.func41,Tryz.ntmps41
    go_wp2_with (first | (go_at_call 78;refine (Qai _ _).mono ?_;rintro e w' ⟨rfl,rfl⟩;first | rw [H0.out] | rw [H1.out]))
    go_ret
    exact ⟨by rw [HW.out];first | done | rfl,HB0.out⟩
   ·have e2:((p.amount:Int) == 0)=false:=by simp;omega
    have HW:=hid (show QD p=0 by unfold QD;simp [*])
    clear q0 q1 q2
    go_enter Tryz.func41,Tryz.ntmps41
    go_wp2_with (first | (go_at_call 78;refine (Qai _ _).mono ?_;rintro e w' ⟨rfl,rfl⟩;first | rw [H0.out] | rw [H1.out]))
    go_ret
    exact ⟨by rw [HW.out];first | done | rfl,HB0.out⟩
end Go.Proofs.YtooemgkjkngpcaaGreatDoor
namespace Go.Proofs
open Go.Shelf
def Tryz.laysStr106_ren:Go.Shelf.Ren:=⟨fun | 106=>79 | 213=>108 | 265=>141 | n=>n,fun | 9=>9 | 3=>3 | n=>n,fun | n=>n⟩
theorem Tryz.laysStr106:Go.Proofs.Lays.n106 Tryz.prog Tryz.laysStr106_ren:={
 mixed:=by kernel_rfl
 f106:=Tryz.func79.trans (congrArg some (by kernel_rfl))
 f213:=Tryz.func108.trans (congrArg some (by kernel_rfl))
 f265:=Tryz.func141.trans (congrArg some (by kernel_rfl))
 t3:=Tryz.underlying3
 a3:=Tryz.isAgg3
 z3:=Tryz.sizeOf3
 v3:=Tryz.zeroValue3
 t9:=Tryz.underlying9
 a9:=Tryz.isAgg9
 z9:=Tryz.sizeOf9
 v9:=Tryz.zeroValue9 }
def Tryz.laysSmall283_ren:Go.Shelf.Ren:=⟨fun | 283=>182 | n=>n,fun | 3=>3 | 9=>9 | 4=>4 | n=>n,fun | n=>n⟩
theorem Tryz.laysSmall283:Go.Proofs.Lays.n283 Tryz.prog Tryz.laysSmall283_ren:={
 mixed:=by kernel_rfl
 f283:=Tryz.func182.trans (congrArg some (by kernel_rfl))
 t3:=Tryz.underlying3
 a3:=Tryz.isAgg3
 z3:=Tryz.sizeOf3
 v3:=Tryz.zeroValue3
 t4:=Tryz.underlying4
 a4:=Tryz.isAgg4
 z4:=Tryz.sizeOf4
 v4:=Tryz.zeroValue4
 t9:=Tryz.underlying9
 a9:=Tryz.isAgg9
 z9:=Tryz.sizeOf9
 v9:=Tryz.zeroValue9 }
def Tryz.laysDig284_ren:Go.Shelf.Ren:=⟨fun | 284=>183 | 129=>173 | 317=>195 | 318=>196 | n=>n,fun | 53=>84 | 3=>3 | 212=>230 | 0=>0 | 4=>4 | 46=>192 | 5=>5 | 9=>9 | n=>n,fun | 17=>2 | n=>n⟩
theorem Tryz.laysDig284:Go.Proofs.LaysM.n284 Tryz.prog Tryz.laysDig284_ren:={
 mixed:=by kernel_rfl
 f129:=Tryz.func173.trans (congrArg some (by kernel_rfl))
 f284:=Tryz.func183.trans (congrArg some (by kernel_rfl))
 f317:=Tryz.func195.trans (congrArg some (by kernel_rfl))
 f318:=Tryz.func196.trans (congrArg some (by kernel_rfl))
 t0:=Tryz.underlying0
 a0:=Tryz.isAgg0
 z0:=Tryz.sizeOf0
 v0:=Tryz.zeroValue0
 t3:=Tryz.underlying3
 a3:=Tryz.isAgg3
 z3:=Tryz.sizeOf3
 v3:=Tryz.zeroValue3
 t4:=Tryz.underlying4
 a4:=Tryz.isAgg4
 z4:=Tryz.sizeOf4
 v4:=Tryz.zeroValue4
 t5:=Tryz.underlying5
 a5:=Tryz.isAgg5
 z5:=Tryz.sizeOf5
 v5:=Tryz.zeroValue5
 t9:=Tryz.underlying9
 a9:=Tryz.isAgg9
 z9:=Tryz.sizeOf9
 v9:=Tryz.zeroValue9
 t46:=Tryz.underlying192
 a46:=Tryz.isAgg192
 z46:=Tryz.sizeOf192
 v46:=Tryz.zeroValue192
 t53:=Tryz.underlying84
 a53:=Tryz.isAgg84
 z53:=Tryz.sizeOf84
 v53:=Tryz.zeroValue84
 t212:=Tryz.underlying230
 a212:=Tryz.isAgg230
 z212:=Tryz.sizeOf230
 v212:=Tryz.zeroValue230
 g17:=by kernel_rfl
 i0:=by kernel_rfl
 i3:=by kernel_rfl
 i4:=by kernel_rfl
 i5:=by kernel_rfl
 i9:=by kernel_rfl
 i46:=by kernel_rfl
 i53:=by kernel_rfl
 i212:=by kernel_rfl
 m17:=by kernel_rfl }
def Tryz.laysFmt285_ren:Go.Shelf.Ren:=⟨fun | 285=>184 | n=>n,fun | 37=>35 | 53=>84 | 3=>3 | 4=>4 | 51=>166 | 9=>9 | 5=>5 | 0=>0 | n=>n,fun | n=>n⟩
theorem Tryz.laysFmt285:Go.Proofs.Lays.n285 Tryz.prog Tryz.laysFmt285_ren:={
 mixed:=by kernel_rfl
 f285:=Tryz.func184.trans (congrArg some (by kernel_rfl))
 t0:=Tryz.underlying0
 a0:=Tryz.isAgg0
 z0:=Tryz.sizeOf0
 v0:=Tryz.zeroValue0
 t3:=Tryz.underlying3
 a3:=Tryz.isAgg3
 z3:=Tryz.sizeOf3
 v3:=Tryz.zeroValue3
 t4:=Tryz.underlying4
 a4:=Tryz.isAgg4
 z4:=Tryz.sizeOf4
 v4:=Tryz.zeroValue4
 t5:=Tryz.underlying5
 a5:=Tryz.isAgg5
 z5:=Tryz.sizeOf5
 v5:=Tryz.zeroValue5
 t9:=Tryz.underlying9
 a9:=Tryz.isAgg9
 z9:=Tryz.sizeOf9
 v9:=Tryz.zeroValue9
 t37:=Tryz.underlying35
 a37:=Tryz.isAgg35
 z37:=Tryz.sizeOf35
 v37:=Tryz.zeroValue35
 t51:=Tryz.underlying166
 a51:=Tryz.isAgg166
 z51:=Tryz.sizeOf166
 v51:=Tryz.zeroValue166
 t53:=Tryz.underlying84
 a53:=Tryz.isAgg84
 z53:=Tryz.sizeOf84
 v53:=Tryz.zeroValue84 }
end Go.Proofs
namespace Go.Proofs.YtooemgkjkngpcaaGreatDoor
set_option maxRecDepth 1000000
set_option maxHeartbeats 8000000
open Go.RowKit
def Yd (a b:Int):Int:=if a<b then -1 else if b<a then 1 else 0
theorem Qa7 (a:Int) (w:World):Calls Tryz.prog 107 #[.int .i64 a] w fun e w'=>e=.returned (.bool false)∧w'=w:=by
 have e1:(a != a)=false:=by simp
 go_enter Tryz.func107,Tryz.ntmps107
 go_wp2
 go_ret
 exact ⟨by simp;first | done | rfl,rfl⟩
theorem Qbf (a b:Int) (w:World):Calls Tryz.prog 76 #[.int .i64 a,.int .i64 b] w fun e w'=>e=.returned (.int .i64 (Yd a b))∧w'=w:=by
 by_cases h1:a<b
 ·have e1:decide (a<b)=true:=decide_eq_true h1
  have HC:=hid (show Yd a b = -1 by unfold Yd;rw [if_pos h1])
  clear h1
  go_enter Tryz.func76,Tryz.ntmps76
  go_wp2_with (go_at_call 107;refine (Qa7 _ _).mono ?_;rintro e w' ⟨rfl,hw⟩;obtain rfl:=hw.symm)
  go_ret
  exact ⟨by rw [HC.out];first | done | rfl,rfl⟩
 ·have e1:decide (a<b)=false:=decide_eq_false h1
  by_cases h2:b<a
  ·have e2:decide (b<a)=true:=decide_eq_true h2
   have HC:=hid (show Yd a b=1 by unfold Yd;rw [if_neg h1,if_pos h2])
   clear h1 h2
   go_enter Tryz.func76,Tryz.ntmps76
   go_wp2_with (go_at_call 107;refine (Qa7 _ _).mono ?_;rintro e w' ⟨rfl,hw⟩;obtain rfl:=hw.symm)
   go_ret
   exact ⟨by rw [HC.out];first | done | rfl,rfl⟩
  ·have e2:decide (b<a)=false:=decide_eq_false h2
   have HC:=hid (show Yd a b=0 by unfold Yd;rw [if_neg h1,if_neg h2])
   clear h1 h2
   go_enter Tryz.func76,Tryz.ntmps76
   go_wp2_with (go_at_call 107;refine (Qa7 _ _).mono ?_;rintro e w' ⟨rfl,hw⟩;obtain rfl:=hw.symm)
   go_ret
   exact ⟨by rw [HC.out];first | done | rfl,rfl⟩
theorem Qi8 (l:List Int) (k:Nat) (x:Int) (h:l[k]?=some x):orN (l.drop k)=if x≠0 then x else orN (l.drop (k+1)):=by
 have hk:=(List.getElem?_eq_some_iff.1 h).1
 have e:l.drop k=x :: l.drop (k+1):=by
  rw [List.drop_eq_getElem_cons hk]
  congr 1
  exact (List.getElem?_eq_some_iff.1 h).2
 rw [e,orN]
theorem QgE (l:List Int) (g n:Nat) (T:TypeId) (w:World) (hr:Row w g T (l.map (Value.int .i64))) (hn:n=l.length) (hl:n≤100) :
  Calls Tryz.prog 75 #[.slice (some ⟨g,0,none⟩) n n] w fun e w'=>e=.returned (.int .i64 (orN l))∧w'=w:=by
 have HR:=hid hr
 have HL:=hid hn
 clear hr hn
 go_enter Tryz.func75,Tryz.ntmps75
 go_wp2
 go_loop [5,8] (fun _ i=>∃ k:Nat,k≤n∧i=.int .i64 (k:Int)∧Hid (orN l=orN (l.drop k))) (fun _ i=>n-(intOf i).toNat)
 case atStart=>exact ⟨0,by omega,rfl,hid rfl⟩
 case round =>
  obtain ⟨k,hk,rfl,HT⟩:=hrel
  by_cases hlt:k<n
  ·have hlt':(k:Int)<(n:Int):=by omega
   obtain ⟨x,hx⟩:∃ x,l[k]?=some x:=⟨l[k]'(by rw [← HL.out];exact hlt),List.getElem?_eq_getElem _⟩
   have c0:w.cell? ⟨g,k,none⟩=some (.int .i64 x):=by rw [HR.out.cell,List.getElem?_map,hx];rfl
   have HST:=hid (Qi8 l k x hx)
   have HX:=hid hx
   clear hx
   by_cases hz:x=0
   ·subst hz
    have HS2:=hid (show orN l=orN (l.drop (k+1)) by rw [HT.out,HST.out,if_neg (by simp)])
    have e0:((0:Int) != 0)=false:=by simp
    clear HST HX
    go_wp2
    go_round
    case rel=>exact ⟨k+1,by omega,by go_num,HS2⟩
    case measure=>simp [intOf];omega
   ·have e0:(x != 0)=true:=by simpa using hz
    have HS2:=hid (show orN l=x by rw [HT.out,HST.out,if_pos hz])
    clear hz HST HX
    go_wp2
    go_ret
    exact ⟨by rw [HS2.out];first | done | rfl,rfl⟩
  ·have hge:decide ((k:Int)<(n:Int))=false:=by simp;omega
   have HE:=hid (show orN l=0 by rw [HT.out,List.drop_eq_nil_of_le (by rw [← HL.out];omega)];rfl)
   go_wp2
   go_ret
   exact ⟨by rw [HE.out];first | done | rfl,rfl⟩
theorem Qjl (l:List Int) (g n:Nat) (T:TypeId) (w:World) (hr:Row w g T (l.map (Value.int .i64))) (hn:n=l.length) (hl:n≤100) :
  Calls Tryz.prog 28 #[.slice (some ⟨g,0,none⟩) n n] w fun e w'=>e=.returned (.int .i64 (orN l))∧w'=w:=by
 have HR:=hid hr
 have HL:=hid hn
 clear hr hn
 go_enter Tryz.func28,Tryz.ntmps28
 go_wp2
 go_loop [5,8] (fun _ i=>∃ k:Nat,k≤n∧i=.int .i64 (k:Int)∧Hid (orN l=orN (l.drop k))) (fun _ i=>n-(intOf i).toNat)
 case atStart=>exact ⟨0,by omega,rfl,hid rfl⟩
 case round =>
  obtain ⟨k,hk,rfl,HT⟩:=hrel
  by_cases hlt:k<n
  ·have hlt':(k:Int)<(n:Int):=by omega
   obtain ⟨x,hx⟩:∃ x,l[k]?=some x:=⟨l[k]'(by rw [← HL.out];exact hlt),List.getElem?_eq_getElem _⟩
   have c0:w.cell? ⟨g,k,none⟩=some (.int .i64 x):=by rw [HR.out.cell,List.getElem?_map,hx];rfl
   have HST:=hid (Qi8 l k x hx)
   have HX:=hid hx
   clear hx
   by_cases hz:x=0
   ·subst hz
    have HS2:=hid (show orN l=orN (l.drop (k+1)) by rw [HT.out,HST.out,if_neg (by simp)])
    have e0:((0:Int) != 0)=false:=by simp
    clear HST HX
    go_wp2
    go_round
    case rel=>exact ⟨k+1,by omega,by go_num,HS2⟩
    case measure=>simp [intOf];omega
   ·have e0:(x != 0)=true:=by simpa using hz
    have HS2:=hid (show orN l=x by rw [HT.out,HST.out,if_pos hz])
    clear hz HST HX
    go_wp2
    go_ret
    exact ⟨by rw [HS2.out];first | done | rfl,rfl⟩
  ·have hge:decide ((k:Int)<(n:Int))=false:=by simp;omega
   have HE:=hid (show orN l=0 by rw [HT.out,List.drop_eq_nil_of_le (by rw [← HL.out];omega)];rfl)
   go_wp2
   go_ret
   exact ⟨by rw [HE.out];first | done | rfl,rfl⟩
def YP (a b:ByteArray):Int:=Lib.compareBytes a.data.toList b.data.toList
theorem Qbq (a b:ByteArray) (w:World):Calls Tryz.prog 79 #[.string a,.string b] w fun e w'=>e=.returned (.int .i64 (YP a b))∧w'=w:=Go.Proofs.Any.strings_Compare Tryz.laysStr106 a b w
theorem Qfm {y0 y1 z4 z5 z6 z7 z8 z9 A0 A1 A2 A3 A4 A5 A6:Value} {ga gb:Nat} (a b:Mk) (oa ob:Option Addr) (ca cb:Nat) {w:World} (hra:Hid (Row w ga 79 [.int .i64 a.chan,.int .i64 a.seq,.slice oa a.dig.length ca])) (hrb:Hid (Row w gb 79 [.int .i64 b.chan,.int .i64 b.seq,.slice ob b.dig.length cb])) (Q:Exit→Act→World→Prop)
  (hQ:Hid (∀ (σ:Nat→Value) (w':World),Below w.heap.size w w'→/-12-/ σ 12=.int .i64 (orN [Yd a.chan b.chan,Yd a.seq b.seq])→Q .normal ⟨#[y0,y1,.pointer (some ⟨ga,0,none⟩),.pointer (some ⟨gb,0,none⟩),σ 12,σ 0,σ 1,σ 2,σ 3,σ 4,σ 5,σ 6,σ 7,σ 8,σ 9,σ 10,σ 11],[]⟩ w')) :
  Code.wp Tryz.prog (.region 1 ((Tryz.f38.body.bind (Ja 1)).getD #[]) true) Q ⟨#[y0,y1,.pointer (some ⟨ga,0,none⟩),.pointer (some ⟨gb,0,none⟩),z4,z5,z6,z7,z8,z9,A0,A1,A2,A3,A4,A5,A6],[]⟩ w:=by
 conv=>arg 2;arg 2;whnf
 conv=>arg 4;dsimp only
 refine Q6 (by kernel_rfl) (fun σ=>#[y0,y1,.pointer (some ⟨ga,0,none⟩),.pointer (some ⟨gb,0,none⟩),σ 12,σ 0,σ 1,σ 2,σ 3,σ 4,σ 5,σ 6,σ 7,σ 8,σ 9,σ 10,σ 11]) (fun i=>([z5,z6,z7,z8,z9,A0,A1,A2,A3,A4,A5,A6,z4]:List Value).getD i undef) rfl (fun i X W=>match i with
  | 0=>X=.pointer (some ⟨ga,0,none⟩)
  | 1=>X=.int .i64 a.chan
  | 2=>X=.pointer (some ⟨gb,0,none⟩)
  | 3=>X=.int .i64 b.chan
  | 4=>X=.int .i64 (Yd a.chan b.chan)
  | 5=>X=.pointer (some ⟨ga,1,none⟩)
  | 6=>X=.int .i64 a.seq
  | 7=>X=.pointer (some ⟨gb,1,none⟩)
  | 8=>X=.int .i64 b.seq
  | 9=>X=.int .i64 (Yd a.seq b.seq)
  | 10=>∃ k,X=.slice (some ⟨k,0,none⟩) 2 2∧Row W k 3 [.int .i64 (Yd a.chan b.chan),.int .i64 (Yd a.seq b.seq)]
  | 11=>X=.int .i64 (orN [Yd a.chan b.chan,Yd a.seq b.seq])
  | 12=>X=.int .i64 (orN [Yd a.chan b.chan,Yd a.seq b.seq])
  | _=>True) ?_ (by kernel_rfl) ?_ ?_
 ·intro i X W W' HB H
  match i,H with
  | 0,H=>exact H
  | 1,H=>exact H
  | 2,H=>exact H
  | 3,H=>exact H
  | 4,H=>exact H
  | 5,H=>exact H
  | 6,H=>exact H
  | 7,H=>exact H
  | 8,H=>exact H
  | 9,H=>exact H
  | 10,H=>exact (by obtain ⟨k,e,hr⟩:=H;exact ⟨k,e,hr.below HB hr.lt⟩)
  | 11,H=>exact H
  | 12,H=>exact H
  | _+13,_=>exact trivial
 ·refine ⟨?_,?_,?_,?_,?_,?_,?_,?_,?_,?_,?_,?_,?_,trivial⟩
  ·
   intro σ W HJ hdep
   simp [Region.binds] at hdep
   have HJ:=hid HJ
   refine Qa rfl rfl ?_
   go_simp
   exact Qo.mk0 (.pointer (some ⟨ga,0,none⟩)) (by first | rfl | simp [Qh, *]) HJ.out rfl
  ·
   intro σ W HJ hdep
   simp [Region.binds] at hdep
   have HJ:=hid HJ
   have kc:=(rg hra HJ).cell 0
   simp at kc
   refine Qa rfl rfl ?_
   go_simp
   exact Qo.mk0 (.int .i64 a.chan) (by first | rfl | simp [Qh, *]) HJ.out rfl
  ·
   intro σ W HJ hdep
   simp [Region.binds] at hdep
   have HJ:=hid HJ
   refine Qa rfl rfl ?_
   go_simp
   exact Qo.mk0 (.pointer (some ⟨gb,0,none⟩)) (by first | rfl | simp [Qh, *]) HJ.out rfl
  ·
   intro σ W HJ hdep
   simp [Region.binds] at hdep
   have HJ:=hid HJ
   have kc:=(rg hrb HJ).cell 0
   simp at kc
   refine Qa rfl rfl ?_
   go_simp
   exact Qo.mk0 (.int .i64 b.chan) (by first | rfl | simp [Qh, *]) HJ.out rfl
  ·
   intro σ W HJ hdep
   simp [Region.binds] at hdep
   have HJ:=hid HJ
   refine Qa rfl rfl ?_
   go_simp
   refine (Qbf a.chan b.chan W).mono ?_
   rintro e w2 ⟨rfl,hw2⟩
   obtain rfl:=hw2.symm
   exact Qo.mk0 (.int .i64 (Yd a.chan b.chan)) (by first | rfl | simp [Qh, *]) HJ.out rfl
  ·
   intro σ W HJ hdep
   simp [Region.binds] at hdep
   have HJ:=hid HJ
   refine Qa rfl rfl ?_
   go_simp
   exact Qo.mk0 (.pointer (some ⟨ga,1,none⟩)) (by first | rfl | simp [Qh, *]) HJ.out rfl
  ·
   intro σ W HJ hdep
   simp [Region.binds] at hdep
   have HJ:=hid HJ
   have kc:=(rg hra HJ).cell 1
   simp at kc
   refine Qa rfl rfl ?_
   go_simp
   exact Qo.mk0 (.int .i64 a.seq) (by first | rfl | simp [Qh, *]) HJ.out rfl
  ·
   intro σ W HJ hdep
   simp [Region.binds] at hdep
   have HJ:=hid HJ
   refine Qa rfl rfl ?_
   go_simp
   exact Qo.mk0 (.pointer (some ⟨gb,1,none⟩)) (by first | rfl | simp [Qh, *]) HJ.out rfl
  ·
   intro σ W HJ hdep
   simp [Region.binds] at hdep
   have HJ:=hid HJ
   have kc:=(rg hrb HJ).cell 1
   simp at kc
   refine Qa rfl rfl ?_
   go_simp
   exact Qo.mk0 (.int .i64 b.seq) (by first | rfl | simp [Qh, *]) HJ.out rfl
  ·
   intro σ W HJ hdep
   simp [Region.binds] at hdep
   have HJ:=hid HJ
   refine Qa rfl rfl ?_
   go_simp
   refine (Qbf a.seq b.seq W).mono ?_
   rintro e w2 ⟨rfl,hw2⟩
   obtain rfl:=hw2.symm
   exact Qo.mk0 (.int .i64 (Yd a.seq b.seq)) (by first | rfl | simp [Qh, *]) HJ.out rfl
  ·
   intro σ W HJ hdep
   simp [Region.binds] at hdep
   have HJ:=hid HJ
   obtain ⟨e1,e2⟩:=hdep
   refine Qa rfl rfl ?_
   go_simp
   exact Qo.mk (.slice (some ⟨W.heap.size,0,none⟩) 2 2) (by first | rfl | simp [Qh, *]) ((Below.refl _ _).alloc (Nat.le_refl _) _) HJ.out ⟨W.heap.size,rfl,Row.new _ _ _⟩
  ·
   intro σ W HJ hdep
   simp [Region.binds] at hdep
   have HJ:=hid HJ
   obtain ⟨k,e10,hrow⟩:∃ k,σ 10=.slice (some ⟨k,0,none⟩) 2 2∧Row W k 3 [.int .i64 (Yd a.chan b.chan),.int .i64 (Yd a.seq b.seq)]:=by first | exact hdep | exact hdep.1
   have HC:=hid (QgE [Yd a.chan b.chan,Yd a.seq b.seq] k 2 3 W hrow rfl (by decide))
   clear hdep hrow
   refine Qa rfl rfl ?_
   go_simp
   refine (HC.out).mono ?_
   rintro e w2 ⟨rfl,hw2⟩
   obtain rfl:=hw2.symm
   exact Qo.mk0 (.int .i64 (orN [Yd a.chan b.chan,Yd a.seq b.seq])) (by first | rfl | simp [Qh, *]) HJ.out rfl
  ·
   intro σ W HJ hdep
   simp [Region.binds] at hdep
   have HJ:=hid HJ
   refine Qa rfl rfl ?_
   go_simp
   exact Qo.mk0 (.int .i64 (orN [Yd a.chan b.chan,Yd a.seq b.seq])) (by first | rfl | simp [Qh, *]) HJ.out rfl
 ·intro σ w' hb hg
  exact hQ.out σ w' hb (by first | exact ⟨hg 12 (by decide)⟩ | exact hg 12 (by decide))
theorem QeW {y0 y1 z4 z5 z6 z7 z8 z9 A0 A1 A2 A3 A4 A5 A6:Value} {ga gb:Nat} (a b:Pu)  {w:World} (hra:Hid (Row w ga 86 [.string a.owner,.string a.denom,.int .u64 (a.amount:Int)])) (hrb:Hid (Row w gb 86 [.string b.owner,.string b.denom,.int .u64 (b.amount:Int)])) (Q:Exit→Act→World→Prop)
  (hQ:Hid (∀ (σ:Nat→Value) (w':World),Below w.heap.size w w'→/-12-/ σ 12=.int .i64 (orN [YP a.owner b.owner,YP a.denom b.denom])→Q .normal ⟨#[y0,y1,.pointer (some ⟨ga,0,none⟩),.pointer (some ⟨gb,0,none⟩),σ 12,σ 0,σ 1,σ 2,σ 3,σ 4,σ 5,σ 6,σ 7,σ 8,σ 9,σ 10,σ 11],[]⟩ w')) :
  Code.wp Tryz.prog (.region 1 ((Tryz.f42.body.bind (Ja 1)).getD #[]) true) Q ⟨#[y0,y1,.pointer (some ⟨ga,0,none⟩),.pointer (some ⟨gb,0,none⟩),z4,z5,z6,z7,z8,z9,A0,A1,A2,A3,A4,A5,A6],[]⟩ w:=by
 conv=>arg 2;arg 2;whnf
 conv=>arg 4;dsimp only
 refine Q6 (by kernel_rfl) (fun σ=>#[y0,y1,.pointer (some ⟨ga,0,none⟩),.pointer (some ⟨gb,0,none⟩),σ 12,σ 0,σ 1,σ 2,σ 3,σ 4,σ 5,σ 6,σ 7,σ 8,σ 9,σ 10,σ 11]) (fun i=>([z5,z6,z7,z8,z9,A0,A1,A2,A3,A4,A5,A6,z4]:List Value).getD i undef) rfl (fun i X W=>match i with
  | 0=>X=.pointer (some ⟨ga,0,none⟩)
  | 1=>X=.string a.owner
  | 2=>X=.pointer (some ⟨gb,0,none⟩)
  | 3=>X=.string b.owner
  | 4=>X=.int .i64 (YP a.owner b.owner)
  | 5=>X=.pointer (some ⟨ga,1,none⟩)
  | 6=>X=.string a.denom
  | 7=>X=.pointer (some ⟨gb,1,none⟩)
  | 8=>X=.string b.denom
  | 9=>X=.int .i64 (YP a.denom b.denom)
  | 10=>∃ k,X=.slice (some ⟨k,0,none⟩) 2 2∧Row W k 3 [.int .i64 (YP a.owner b.owner),.int .i64 (YP a.denom b.denom)]
  | 11=>X=.int .i64 (orN [YP a.owner b.owner,YP a.denom b.denom])
  | 12=>X=.int .i64 (orN [YP a.owner b.owner,YP a.denom b.denom])
  | _=>True) ?_ (by kernel_rfl) ?_ ?_
 ·intro i X W W' HB H
  match i,H with
  | 0,H=>exact H
  | 1,H=>exact H
  | 2,H=>exact H
  | 3,H=>exact H
  | 4,H=>exact H
  | 5,H=>exact H
  | 6,H=>exact H
  | 7,H=>exact H
  | 8,H=>exact H
  | 9,H=>exact H
  | 10,H=>exact (by obtain ⟨k,e,hr⟩:=H;exact ⟨k,e,hr.below HB hr.lt⟩)
  | 11,H=>exact H
  | 12,H=>exact H
  | _+13,_=>exact trivial
 ·refine ⟨?_,?_,?_,?_,?_,?_,?_,?_,?_,?_,?_,?_,?_,trivial⟩
  ·
   intro σ W HJ hdep
   simp [Region.binds] at hdep
   have HJ:=hid HJ
   refine Qa rfl rfl ?_
   go_simp
   exact Qo.mk0 (.pointer (some ⟨ga,0,none⟩)) (by first | rfl | simp [Qh, *]) HJ.out rfl
  ·
   intro σ W HJ hdep
   simp [Region.binds] at hdep
   have HJ:=hid HJ
   have kc:=(rg hra HJ).cell 0
   simp at kc
   refine Qa rfl rfl ?_
   go_simp
   exact Qo.mk0 (.string a.owner) (by first | rfl | simp [Qh, *]) HJ.out rfl
  ·
   intro σ W HJ hdep
   simp [Region.binds] at hdep
   have HJ:=hid HJ
   refine Qa rfl rfl ?_
   go_simp
   exact Qo.mk0 (.pointer (some ⟨gb,0,none⟩)) (by first | rfl | simp [Qh, *]) HJ.out rfl
  ·
   intro σ W HJ hdep
   simp [Region.binds] at hdep
   have HJ:=hid HJ
   have kc:=(rg hrb HJ).cell 0
   simp at kc
   refine Qa rfl rfl ?_
   go_simp
   exact Qo.mk0 (.string b.owner) (by first | rfl | simp [Qh, *]) HJ.out rfl
  ·
   intro σ W HJ hdep
   simp [Region.binds] at hdep
   have HJ:=hid HJ
   refine Qa rfl rfl ?_
   go_simp
   refine (Qbq a.owner b.owner W).mono ?_
   rintro e w2 ⟨rfl,hw2⟩
   obtain rfl:=hw2.symm
   exact Qo.mk0 (.int .i64 (YP a.owner b.owner)) (by first | rfl | simp [Qh, *]) HJ.out rfl
  ·
   intro σ W HJ hdep
   simp [Region.binds] at hdep
   have HJ:=hid HJ
   refine Qa rfl rfl ?_
   go_simp
   exact Qo.mk0 (.pointer (some ⟨ga,1,none⟩)) (by first | rfl | simp [Qh, *]) HJ.out rfl
  ·
   intro σ W HJ hdep
   simp [Region.binds] at hdep
   have HJ:=hid HJ
   have kc:=(rg hra HJ).cell 1
   simp at kc
   refine Qa rfl rfl ?_
   go_simp
   exact Qo.mk0 (.string a.denom) (by first | rfl | simp [Qh, *]) HJ.out rfl
  ·
   intro σ W HJ hdep
   simp [Region.binds] at hdep
   have HJ:=hid HJ
   refine Qa rfl rfl ?_
   go_simp
   exact Qo.mk0 (.pointer (some ⟨gb,1,none⟩)) (by first | rfl | simp [Qh, *]) HJ.out rfl
  ·
   intro σ W HJ hdep
   simp [Region.binds] at hdep
   have HJ:=hid HJ
   have kc:=(rg hrb HJ).cell 1
   simp at kc
   refine Qa rfl rfl ?_
   go_simp
   exact Qo.mk0 (.string b.denom) (by first | rfl | simp [Qh, *]) HJ.out rfl
  ·
   intro σ W HJ hdep
   simp [Region.binds] at hdep
   have HJ:=hid HJ
   refine Qa rfl rfl ?_
   go_simp
   refine (Qbq a.denom b.denom W).mono ?_
   rintro e w2 ⟨rfl,hw2⟩
   obtain rfl:=hw2.symm
   exact Qo.mk0 (.int .i64 (YP a.denom b.denom)) (by first | rfl | simp [Qh, *]) HJ.out rfl
  ·
   intro σ W HJ hdep
   simp [Region.binds] at hdep
   have HJ:=hid HJ
   obtain ⟨e1,e2⟩:=hdep
   refine Qa rfl rfl ?_
   go_simp
   exact Qo.mk (.slice (some ⟨W.heap.size,0,none⟩) 2 2) (by first | rfl | simp [Qh, *]) ((Below.refl _ _).alloc (Nat.le_refl _) _) HJ.out ⟨W.heap.size,rfl,Row.new _ _ _⟩
  ·
   intro σ W HJ hdep
   simp [Region.binds] at hdep
   have HJ:=hid HJ
   obtain ⟨k,e10,hrow⟩:∃ k,σ 10=.slice (some ⟨k,0,none⟩) 2 2∧Row W k 3 [.int .i64 (YP a.owner b.owner),.int .i64 (YP a.denom b.denom)]:=by first | exact hdep | exact hdep.1
   have HC:=hid (QgE [YP a.owner b.owner,YP a.denom b.denom] k 2 3 W hrow rfl (by decide))
   clear hdep hrow
   refine Qa rfl rfl ?_
   go_simp
   refine (HC.out).mono ?_
   rintro e w2 ⟨rfl,hw2⟩
   obtain rfl:=hw2.symm
   exact Qo.mk0 (.int .i64 (orN [YP a.owner b.owner,YP a.denom b.denom])) (by first | rfl | simp [Qh, *]) HJ.out rfl
  ·
   intro σ W HJ hdep
   simp [Region.binds] at hdep
   have HJ:=hid HJ
   refine Qa rfl rfl ?_
   go_simp
   exact Qo.mk0 (.int .i64 (orN [YP a.owner b.owner,YP a.denom b.denom])) (by first | rfl | simp [Qh, *]) HJ.out rfl
 ·intro σ w' hb hg
  exact hQ.out σ w' hb (by first | exact ⟨hg 12 (by decide)⟩ | exact hg 12 (by decide))
theorem QbE (a b:Mk) (oa ob:Option Addr) (ca cb:Nat) (w:World):Calls Tryz.prog 38 #[.agg #[.int .i64 a.chan,.int .i64 a.seq,.slice oa a.dig.length ca],.agg #[.int .i64 b.chan,.int .i64 b.seq,.slice ob b.dig.length cb]] w fun e w'=>e=.returned (.int .i64 (orN [Yd a.chan b.chan,Yd a.seq b.seq]))∧Below w.heap.size w w':=by
 obtain ⟨w0,hw0⟩:∃ w0,(w.alloc (.cells #[.int .i64 a.chan,.int .i64 a.seq,.slice oa a.dig.length ca] 79)).alloc (.cells #[.int .i64 b.chan,.int .i64 b.seq,.slice ob b.dig.length cb] 79)=w0:=⟨_,rfl⟩
 have HB0:=hid (show Below w.heap.size w w0 by rw [← hw0];exact ((Below.refl _ _).alloc (Nat.le_refl _) _).alloc (by simp) _)
 have HRA:=hid (show Row w0 w.heap.size 79 [.int .i64 a.chan,.int .i64 a.seq,.slice oa a.dig.length ca] by rw [← hw0];exact (Row.new _ _ _).alloc _)
 have HRB:=hid (show Row w0 (w.heap.size+1) 79 [.int .i64 b.chan,.int .i64 b.seq,.slice ob b.dig.length cb] by rw [← hw0];exact Row.newAt _ _ _ _ (by simp))
 have HW0:=hid hw0
 clear hw0
 go_enter Tryz.func38,Tryz.ntmps38
 go_wp2_with fail
 rw [HW0.out]
 refine Qfm a b oa ob ca cb HRA HRB _ (hid ?_)
 intro σ1 w2 hb2 h12
 have HB2:=hgo HB0 hb2
 rw [h12]
 clear hb2 h12
 go_wp2
 go_ret
 exact ⟨by first | done | rfl,HB2.out⟩
theorem Qbh (a b:Pu)  (w:World):Calls Tryz.prog 42 #[.agg #[.string a.owner,.string a.denom,.int .u64 (a.amount:Int)],.agg #[.string b.owner,.string b.denom,.int .u64 (b.amount:Int)]] w fun e w'=>e=.returned (.int .i64 (orN [YP a.owner b.owner,YP a.denom b.denom]))∧Below w.heap.size w w':=by
 obtain ⟨w0,hw0⟩:∃ w0,(w.alloc (.cells #[.string a.owner,.string a.denom,.int .u64 (a.amount:Int)] 86)).alloc (.cells #[.string b.owner,.string b.denom,.int .u64 (b.amount:Int)] 86)=w0:=⟨_,rfl⟩
 have HB0:=hid (show Below w.heap.size w w0 by rw [← hw0];exact ((Below.refl _ _).alloc (Nat.le_refl _) _).alloc (by simp) _)
 have HRA:=hid (show Row w0 w.heap.size 86 [.string a.owner,.string a.denom,.int .u64 (a.amount:Int)] by rw [← hw0];exact (Row.new _ _ _).alloc _)
 have HRB:=hid (show Row w0 (w.heap.size+1) 86 [.string b.owner,.string b.denom,.int .u64 (b.amount:Int)] by rw [← hw0];exact Row.newAt _ _ _ _ (by simp))
 have HW0:=hid hw0
 clear hw0
 go_enter Tryz.func42,Tryz.ntmps42
 go_wp2_with fail
 rw [HW0.out]
 refine QeW a b  HRA HRB _ (hid ?_)
 intro σ1 w2 hb2 h12
 have HB2:=hgo HB0 hb2
 rw [h12]
 clear hb2 h12
 go_wp2
 go_ret
 exact ⟨by first | done | rfl,HB2.out⟩
theorem QfN (a b:Mk):QT a b=decide (orN [Yd a.chan b.chan,Yd a.seq b.seq]<0):=by
 unfold QT orN Yd
 by_cases h1:a.chan<b.chan
 ·simp [h1]
 ·by_cases h2:b.chan<a.chan
  ·have:¬ a.chan=b.chan:=by omega
   simp [h1,h2,this]
  ·have e:a.chan=b.chan:=by omega
   by_cases h3:a.seq<b.seq
   ·simp [orN,e,h3]
   ·by_cases h4:b.seq<a.seq <;> simp [orN,e,h3,h4]
theorem ZQ:∀ (a b:List UInt8),Op.bytesLess a b=decide (Lib.compareBytes a b<0)∧(Lib.compareBytes a b=0↔a=b)
 | [],[]=>⟨rfl,by simp [Lib.compareBytes]⟩
 | [],y :: b=>⟨rfl,by simp [Lib.compareBytes]⟩
 | x :: a,[]=>⟨rfl,by simp [Lib.compareBytes]⟩
 | x :: a,y :: b=>by
  obtain ⟨h1,h2⟩:=ZQ a b
  unfold Op.bytesLess Lib.compareBytes
  by_cases g1:x<y
  ·have:x≠y:=fun e=>by subst e;exact absurd g1 (UInt8.lt_irrefl x)
   simp [g1,this]
  ·by_cases g2:y<x
   ·have:x≠y:=fun e=>by subst e;exact absurd g2 (UInt8.lt_irrefl x)
    simp [g1,g2,this]
   ·have e:x=y:=by
     have a1:¬ x.toNat<y.toNat:=g1
     have a2:¬ y.toNat<x.toNat:=g2
     exact UInt8.toNat_inj.1 (by omega)
    subst e
    simp [g1,h1,h2]
theorem Qgk (a b:Pu):Je a b=decide (orN [YP a.owner b.owner,YP a.denom b.denom]<0):=by
 have e:∀ x:ByteArray,x.toList=x.data.toList:=fun x=>by rw [ByteArray.toList_eq]
 obtain ⟨h1,h2⟩:=ZQ a.owner.data.toList b.owner.data.toList
 obtain ⟨h3,h4⟩:=ZQ a.denom.data.toList b.denom.data.toList
 have h5:a.owner=b.owner↔a.owner.data.toList=b.owner.data.toList:=by
  constructor
  ·intro h;rw [h]
  ·intro h;exact ByteArray.ext (Array.toList_inj.1 h)
 unfold Je QcE YP
 rw [e,e,e,e,h1,h3]
 by_cases z:Lib.compareBytes a.owner.data.toList b.owner.data.toList=0
 ·have:=h5.2 (h2.1 z)
  rw [decide_eq_true this]
  by_cases z2:Lib.compareBytes a.denom.data.toList b.denom.data.toList=0 <;> simp [orN,z,z2]
 ·have:¬ a.owner=b.owner:=fun h=>z (h2.2 (h5.1 h))
  rw [decide_eq_false this]
  simp [orN,z]
theorem Zj {α:Type} (lt:α→α→Bool) (a x:α):Yp lt (some a) x=lt a x:=rfl
theorem Jk {w:World} {g k:Nat} {t:TypeId} {cs:List Value} (h:Row w g t cs) {i:Nat} {v:Value} (hg:g≠k):Row (w.setCell ⟨k,i,none⟩ v) g t cs:=by
 unfold Row at *
 rw [heap_setCell_other _ _ _ _ hg]
 exact h
def Jm (w:World) (g:Nat) (p:Option Mk):Prop :=
 Row w g 80 [.func (.func 37) #[] #[]]∧Row w (g+1) 82 [.func (.func 38) #[] #[]]∧Row w (g+2+1) 4 [.bool p.isNone] ∧
 match p with
 | none=>Row w (g+2) 79 [.int .i64 0,.int .i64 0,.slice none 0 0]
 | some a=>∃ o c,Row w (g+2) 79 [.int .i64 a.chan,.int .i64 a.seq,.slice o a.dig.length c]
theorem Jm.below {w w':World} {g:Nat} {p:Option Mk} (h:Jm w g p) (hb:Below w.heap.size w w'):Jm w' g p:=by
 obtain ⟨h1,h2,h3,h4⟩:=h
 refine ⟨h1.below hb h1.lt,h2.below hb h2.lt,h3.below hb h3.lt,?_⟩
 cases p with
 | none=>exact Row.below h4 hb (Row.lt h4)
 | some a=>obtain ⟨o,c,h⟩:=h4;exact ⟨o,c,h.below hb h.lt⟩
def YS (g:Nat):Value:=.func (.func 74) #[] #[.pointer (some ⟨g,0,none⟩),.pointer (some ⟨g+2+1,0,none⟩),.pointer (some ⟨g+1,0,none⟩),.pointer (some ⟨g+2,0,none⟩)]
theorem Qcu (w:World):Calls Tryz.prog 36 #[.func (.func 37) #[] #[],.func (.func 38) #[] #[]] w fun e w'=>e=.returned (YS w.heap.size)∧Below w.heap.size w w'∧Jm w' w.heap.size none:=by
 obtain ⟨w0,hw0⟩:∃ w0,(((w.alloc (.cells #[.func (.func 37) #[] #[]] 80)).alloc (.cells #[.func (.func 38) #[] #[]] 82)).alloc (.cells #[.int .i64 0,.int .i64 0,.slice none 0 0] 79)).alloc (.cells #[.bool true] 4)=w0:=⟨_,rfl⟩
 have HB0:=hid (show Below w.heap.size w w0 by rw [← hw0];exact ((((Below.refl _ _).alloc (Nat.le_refl _) _).alloc (by simp) _).alloc (by simp;omega) _).alloc (by simp;omega) _)
 have HR:=hid (show Jm w0 w.heap.size none by
  rw [← hw0]
  exact ⟨(((Row.new _ _ _).alloc _).alloc _).alloc _,((Row.newAt _ _ _ _ (by simp)).alloc _).alloc _,Row.newAt _ _ _ _ (by simp),(Row.newAt _ _ _ _ (by simp)).alloc _⟩)
 have HW0:=hid hw0
 clear hw0
 go_enter Tryz.func36,Tryz.ntmps36
 go_wp2
 go_ret
 first | rw [HW0.out] | skip
 exact ⟨by first | done | rfl,HB0.out,HR.out⟩
def J9 (p:Option Mk) (x:Mk):Int:=if QB x≠0 then QB x else if Yp QT p x=false then 2 else 0
theorem Qky (p:Option Mk) (x:Mk) (r:List Mk):YR QB QT p (x :: r)=if J9 p x≠0 then J9 p x else YR QB QT (some x) r:=by
 unfold J9
 rw [YR]
 by_cases h1:QB x=0
 ·simp only [h1,ne_eq,not_true_eq_false,if_false]
  cases Yp QT p x <;> simp
 ·simp [h1]
theorem Qf3 (p:Option Mk) (x:Mk) (ox:Option Addr) (cx:Nat) (g:Nat) (w:World) (h:Jm w g p) :
  Calls Tryz.prog 74 #[.agg #[.int .i64 x.chan,.int .i64 x.seq,.slice ox x.dig.length cx],.pointer (some ⟨g,0,none⟩),.pointer (some ⟨g+2+1,0,none⟩),.pointer (some ⟨g+1,0,none⟩),.pointer (some ⟨g+2,0,none⟩)] w fun e w'=>e=.returned (.int .i64 (J9 p x))∧Below g w w'∧(J9 p x=0→Jm w' g (some x)):=by
 obtain ⟨h0,h1,h3,h4⟩:=h
 have hg3:=h3.lt
 have hgw:g≤w.heap.size:=by omega
 obtain ⟨w0,hw0⟩:∃ w0,w.alloc (.cells #[.int .i64 x.chan,.int .i64 x.seq,.slice ox x.dig.length cx] 79)=w0:=⟨_,rfl⟩
 have hb0:=bof hw0
 have HB0:=hid hb0
 have HX0:=hid (Q7 hw0)
 have H00:=hid (h0.below hb0 h0.lt)
 have H10:=hid (h1.below hb0 h1.lt)
 have H30:=hid (h3.below hb0 h3.lt)
 have HW0:=hid hw0
 have HWR:=hid (show Calls Tryz.prog 37 #[.agg #[.int .i64 x.chan,.int .i64 x.seq,.slice ox x.dig.length cx]] w0 _ from Qdh x ox cx w0)
 have k0:w0.cell? ⟨g,0,none⟩=some (.func (.func 37) #[] #[]):=H00.out.cell 0
 have x0:w0.cell? ⟨w.heap.size,0,none⟩=some (.int .i64 x.chan):=HX0.out.cell 0
 have x1:w0.cell? ⟨w.heap.size,1,none⟩=some (.int .i64 x.seq):=HX0.out.cell 1
 have x2:w0.cell? ⟨w.heap.size,2,none⟩=some (.slice ox x.dig.length cx):=HX0.out.cell 2
 have H4:=hid h4
 clear hw0 h0 h1 h3 h4 hb0
 by_cases hz:QB x=0
 ·have HZ:=hid hz
  clear hz
  cases p with
  | none =>
   have HNX:=hid (show J9 none x=0 by unfold J9 Yp;simp [HZ.out])
   go_enter Tryz.func74,Tryz.ntmps74
   go_upto_region 1 with fail
   rw [HW0.out]
   go_wp2_with fail
   refine HWR.out.mono ?_
   rintro e w1 ⟨rfl,hb1⟩
   rw [HZ.out]
   have HB1:=hgo HB0 hb1
   have hG0:=rgo H00 hb1
   have hG1:=rgo H10 hb1
   have hG3:=rgo H30 hb1
   have HX1:=rgo HX0 hb1
   have HA1:=hid ((Row.below H4.out (HB0.out) (Row.lt H4.out)).below hb1 (Row.lt (Row.below H4.out (HB0.out) (Row.lt H4.out))))
   have b3:w1.cell? ⟨g+2+1,0,none⟩=some (.bool true):=hG3.out.cell 0
   have z0:w1.cell? ⟨w.heap.size,0,none⟩=some (.int .i64 x.chan):=HX1.out.cell 0
   have z1:w1.cell? ⟨w.heap.size,1,none⟩=some (.int .i64 x.seq):=HX1.out.cell 1
   have z2:w1.cell? ⟨w.heap.size,2,none⟩=some (.slice ox x.dig.length cx):=HX1.out.cell 2
   have fr3:=hG3.out.frozen 0
   have y0:=HA1.out.cell 0
   have y1:=HA1.out.cell 1
   have y2:=HA1.out.cell 2
   simp at y0
   simp at y1
   simp at y2
   have fra0:=HA1.out.frozen 0
   have fra1:=HA1.out.frozen 1
   have fra2:=HA1.out.frozen 2
   clear hb1
   obtain ⟨wz,hwz⟩:∃ wz,((((w1.setCell ⟨g+2,0,none⟩ (.int .i64 x.chan)).setCell ⟨g+2,1,none⟩ (.int .i64 x.seq)).setCell ⟨g+2,2,none⟩ (.slice ox x.dig.length cx)).setCell ⟨g+2+1,0,none⟩ (.bool false))=wz:=⟨_,rfl⟩
   have HBZ:=hid (show Below g w wz by rw [← hwz];exact (((((HB1.out.mono hgw).setCell (show g≤g+2 by omega) _).setCell (show g≤g+2 by omega) _).setCell (show g≤g+2 by omega) _).setCell (show g≤g+2+1 by omega) _))
   have HRZ:=hid (show Jm wz g (some x) by
    rw [← hwz]
    refine ⟨?_,?_,?_,ox,cx,?_⟩
    ·exact Jk (Jk (Jk (Jk hG0.out (by omega)) (by omega)) (by omega)) (by omega)
    ·exact Jk (Jk (Jk (Jk hG1.out (by omega)) (by omega)) (by omega)) (by omega)
    ·exact (Jk (Jk (Jk hG3.out (by omega)) (by omega)) (by omega)).set 0 _
    ·exact Jk (((HA1.out.set 0 _).set 1 _).set 2 _) (by omega))
   have HWZ:=hid hwz
   clear hwz
   go_wp2
   go_ret
   first | rw [HWZ.out] | skip
   exact ⟨by rw [HNX.out];first | done | rfl,HBZ.out,fun _=>HRZ.out⟩
  | some a =>
   obtain ⟨oa,ca,hra⟩:∃ o c,Row w (g+2) 79 [.int .i64 a.chan,.int .i64 a.seq,.slice o a.dig.length c]:=H4.out
   have hra0:=hra.below HB0.out hra.lt
   have HRA0:=hid hra0
   clear H4 hra hra0
   go_enter Tryz.func74,Tryz.ntmps74
   go_upto_region 1 with fail
   rw [HW0.out]
   go_wp2_with fail
   refine HWR.out.mono ?_
   rintro e w1 ⟨rfl,hb1⟩
   rw [HZ.out]
   have HB1:=hgo HB0 hb1
   have hE0:=rgo H00 hb1
   have hE1:=rgo H10 hb1
   have hE3:=rgo H30 hb1
   have HX1:=rgo HX0 hb1
   have HA1:=rgo HRA0 hb1
   have HCM:=hid (show Calls Tryz.prog 38 #[.agg #[.int .i64 a.chan,.int .i64 a.seq,.slice oa a.dig.length ca],.agg #[.int .i64 x.chan,.int .i64 x.seq,.slice ox x.dig.length cx]] w1 _ from QbE a x oa ox ca cx w1)
   have b3:w1.cell? ⟨g+2+1,0,none⟩=some (.bool false):=hE3.out.cell 0
   have b1:w1.cell? ⟨g+1,0,none⟩=some (.func (.func 38) #[] #[]):=hE1.out.cell 0
   have q0:w1.cell? ⟨g+2,0,none⟩=some (.int .i64 a.chan):=HA1.out.cell 0
   have q1:w1.cell? ⟨g+2,1,none⟩=some (.int .i64 a.seq):=HA1.out.cell 1
   have q2:w1.cell? ⟨g+2,2,none⟩=some (.slice oa a.dig.length ca):=HA1.out.cell 2
   have z0:w1.cell? ⟨w.heap.size,0,none⟩=some (.int .i64 x.chan):=HX1.out.cell 0
   have z1:w1.cell? ⟨w.heap.size,1,none⟩=some (.int .i64 x.seq):=HX1.out.cell 1
   have z2:w1.cell? ⟨w.heap.size,2,none⟩=some (.slice ox x.dig.length cx):=HX1.out.cell 2
   clear hb1
   go_wp2_with fail
   refine HCM.out.mono ?_
   rintro e w2 ⟨rfl,hb2⟩
   have HB2:=hgo HB1 hb2
   have hG0:=rgo hE0 hb2
   have hG1:=rgo hE1 hb2
   have hG3:=rgo hE3 hb2
   have HX2:=rgo HX1 hb2
   have HA2:=rgo HA1 hb2
   clear hb2 b3 b1 q0 q1 q2 z0 z1 z2 x0 x1 x2 k0
   have z0:w2.cell? ⟨w.heap.size,0,none⟩=some (.int .i64 x.chan):=HX2.out.cell 0
   have z1:w2.cell? ⟨w.heap.size,1,none⟩=some (.int .i64 x.seq):=HX2.out.cell 1
   have z2:w2.cell? ⟨w.heap.size,2,none⟩=some (.slice ox x.dig.length cx):=HX2.out.cell 2
   have fr3:=hG3.out.frozen 0
   have y0:=HA2.out.cell 0
   have y1:=HA2.out.cell 1
   have y2:=HA2.out.cell 2
   simp at y0
   simp at y1
   simp at y2
   have b3:w2.cell? ⟨g+2+1,0,none⟩=some (.bool false):=hG3.out.cell 0
   have fra0:=HA2.out.frozen 0
   have fra1:=HA2.out.frozen 1
   have fra2:=HA2.out.frozen 2
   have HLC:=hid (QfN a x)
   generalize hcz:orN [Yd a.chan x.chan,Yd a.seq x.seq]=zc at *
   clear hcz
   by_cases hlt:zc<0
   ·have e0:decide ((0:Int)≤zc)=false:=decide_eq_false (by omega)
    have HNX:=hid (show J9 (some a) x=0 by unfold J9;rw [Zj,HLC.out,decide_eq_true hlt];simp [HZ.out])
    clear hlt HLC HCM
    obtain ⟨wz,hwz⟩:∃ wz,((((w2.setCell ⟨g+2,0,none⟩ (.int .i64 x.chan)).setCell ⟨g+2,1,none⟩ (.int .i64 x.seq)).setCell ⟨g+2,2,none⟩ (.slice ox x.dig.length cx)).setCell ⟨g+2+1,0,none⟩ (.bool false))=wz:=⟨_,rfl⟩
    have HBZ:=hid (show Below g w wz by rw [← hwz];exact (((((HB2.out.mono hgw).setCell (show g≤g+2 by omega) _).setCell (show g≤g+2 by omega) _).setCell (show g≤g+2 by omega) _).setCell (show g≤g+2+1 by omega) _))
    have HRZ:=hid (show Jm wz g (some x) by
     rw [← hwz]
     refine ⟨?_,?_,?_,ox,cx,?_⟩
     ·exact Jk (Jk (Jk (Jk hG0.out (by omega)) (by omega)) (by omega)) (by omega)
     ·exact Jk (Jk (Jk (Jk hG1.out (by omega)) (by omega)) (by omega)) (by omega)
     ·exact (Jk (Jk (Jk hG3.out (by omega)) (by omega)) (by omega)).set 0 _
     ·exact Jk (((HA2.out.set 0 _).set 1 _).set 2 _) (by omega))
    have HWZ:=hid hwz
    clear hwz
    go_wp2
    go_ret
    first | rw [HWZ.out] | skip
    exact ⟨by rw [HNX.out];first | done | rfl,HBZ.out,fun _=>HRZ.out⟩
   ·have e0:decide ((0:Int)≤zc)=true:=decide_eq_true (by omega)
    have HNX:=hid (show J9 (some a) x=2 by unfold J9;rw [Zj,HLC.out,decide_eq_false hlt];simp [HZ.out])
    clear hlt HLC HCM
    go_wp2
    go_ret
    exact ⟨by rw [HNX.out];first | done | rfl,HB2.out.mono hgw,fun h=>absurd h (by rw [HNX.out];decide)⟩
 ·have e0:(QB x != 0)=true:=by simpa using hz
  have HNX:=hid (show J9 p x=QB x by unfold J9;rw [if_pos hz])
  have HNZ:=hid hz
  clear hz
  generalize hwx:QB x=zx at *
  clear hwx
  go_enter Tryz.func74,Tryz.ntmps74
  go_upto_region 1 with fail
  rw [HW0.out]
  go_wp2_with fail
  refine HWR.out.mono ?_
  rintro e w1 ⟨rfl,hb1⟩
  have HB1:=hgo HB0 hb1
  clear hb1
  go_wp2
  go_ret
  exact ⟨by rw [HNX.out];first | done | rfl,HB1.out.mono hgw,fun h=>absurd h (by rw [HNX.out];exact HNZ.out)⟩
def Yu (w:World) (g:Nat) (p:Option Pu):Prop :=
 Row w g 87 [.func (.func 41) #[] #[]]∧Row w (g+1) 89 [.func (.func 42) #[] #[]]∧Row w (g+2+1) 4 [.bool p.isNone] ∧
 match p with
 | none=>Row w (g+2) 86 [.string ⟨#[]⟩,.string ⟨#[]⟩,.int .u64 0]
 | some a=>Row w (g+2) 86 [.string a.owner,.string a.denom,.int .u64 (a.amount:Int)]
theorem Yu.below {w w':World} {g:Nat} {p:Option Pu} (h:Yu w g p) (hb:Below w.heap.size w w'):Yu w' g p:=by
 obtain ⟨h1,h2,h3,h4⟩:=h
 refine ⟨h1.below hb h1.lt,h2.below hb h2.lt,h3.below hb h3.lt,?_⟩
 cases p with
 | none=>exact Row.below h4 hb (Row.lt h4)
 | some a=>exact Row.below h4 hb (Row.lt h4)
def Qb2 (g:Nat):Value:=.func (.func 77) #[] #[.pointer (some ⟨g,0,none⟩),.pointer (some ⟨g+2+1,0,none⟩),.pointer (some ⟨g+1,0,none⟩),.pointer (some ⟨g+2,0,none⟩)]
theorem Qiw (w:World):Calls Tryz.prog 40 #[.func (.func 41) #[] #[],.func (.func 42) #[] #[]] w fun e w'=>e=.returned (Qb2 w.heap.size)∧Below w.heap.size w w'∧Yu w' w.heap.size none:=by
 obtain ⟨w0,hw0⟩:∃ w0,(((w.alloc (.cells #[.func (.func 41) #[] #[]] 87)).alloc (.cells #[.func (.func 42) #[] #[]] 89)).alloc (.cells #[.string ⟨#[]⟩,.string ⟨#[]⟩,.int .u64 0] 86)).alloc (.cells #[.bool true] 4)=w0:=⟨_,rfl⟩
 have HB0:=hid (show Below w.heap.size w w0 by rw [← hw0];exact ((((Below.refl _ _).alloc (Nat.le_refl _) _).alloc (by simp) _).alloc (by simp;omega) _).alloc (by simp;omega) _)
 have HR:=hid (show Yu w0 w.heap.size none by
  rw [← hw0]
  exact ⟨(((Row.new _ _ _).alloc _).alloc _).alloc _,((Row.newAt _ _ _ _ (by simp)).alloc _).alloc _,Row.newAt _ _ _ _ (by simp),(Row.newAt _ _ _ _ (by simp)).alloc _⟩)
 have HW0:=hid hw0
 clear hw0
 go_enter Tryz.func40,Tryz.ntmps40
 go_wp2
 go_ret
 first | rw [HW0.out] | skip
 exact ⟨by first | done | rfl,HB0.out,HR.out⟩
def Yb (p:Option Pu) (x:Pu):Int:=if QD x≠0 then QD x else if Yp Je p x=false then 2 else 0
theorem Qkn (p:Option Pu) (x:Pu) (r:List Pu):YR QD Je p (x :: r)=if Yb p x≠0 then Yb p x else YR QD Je (some x) r:=by
 unfold Yb
 rw [YR]
 by_cases h1:QD x=0
 ·simp only [h1,ne_eq,not_true_eq_false,if_false]
  cases Yp Je p x <;> simp
 ·simp [h1]
theorem QfS (p:Option Pu) (x:Pu) (g:Nat) (w:World) (h:Yu w g p) :
  Calls Tryz.prog 77 #[.agg #[.string x.owner,.string x.denom,.int .u64 (x.amount:Int)],.pointer (some ⟨g,0,none⟩),.pointer (some ⟨g+2+1,0,none⟩),.pointer (some ⟨g+1,0,none⟩),.pointer (some ⟨g+2,0,none⟩)] w fun e w'=>e=.returned (.int .i64 (Yb p x))∧Below g w w'∧(Yb p x=0→Yu w' g (some x)):=by
 obtain ⟨h0,h1,h3,h4⟩:=h
 have hg3:=h3.lt
 have hgw:g≤w.heap.size:=by omega
 obtain ⟨w0,hw0⟩:∃ w0,w.alloc (.cells #[.string x.owner,.string x.denom,.int .u64 (x.amount:Int)] 86)=w0:=⟨_,rfl⟩
 have hb0:=bof hw0
 have HB0:=hid hb0
 have HX0:=hid (Q7 hw0)
 have H00:=hid (h0.below hb0 h0.lt)
 have H10:=hid (h1.below hb0 h1.lt)
 have H30:=hid (h3.below hb0 h3.lt)
 have HW0:=hid hw0
 have HWR:=hid (show Calls Tryz.prog 41 #[.agg #[.string x.owner,.string x.denom,.int .u64 (x.amount:Int)]] w0 _ from QcY x w0)
 have k0:w0.cell? ⟨g,0,none⟩=some (.func (.func 41) #[] #[]):=H00.out.cell 0
 have x0:w0.cell? ⟨w.heap.size,0,none⟩=some (.string x.owner):=HX0.out.cell 0
 have x1:w0.cell? ⟨w.heap.size,1,none⟩=some (.string x.denom):=HX0.out.cell 1
 have x2:w0.cell? ⟨w.heap.size,2,none⟩=some (.int .u64 (x.amount:Int)):=HX0.out.cell 2
 have H4:=hid h4
 clear hw0 h0 h1 h3 h4 hb0
 by_cases hz:QD x=0
 ·have HZ:=hid hz
  clear hz
  cases p with
  | none =>
   have HNX:=hid (show Yb none x=0 by unfold Yb Yp;simp [HZ.out])
   go_enter Tryz.func77,Tryz.ntmps77
   go_upto_region 1 with fail
   rw [HW0.out]
   go_wp2_with fail
   refine HWR.out.mono ?_
   rintro e w1 ⟨rfl,hb1⟩
   rw [HZ.out]
   have HB1:=hgo HB0 hb1
   have hG0:=rgo H00 hb1
   have hG1:=rgo H10 hb1
   have hG3:=rgo H30 hb1
   have HX1:=rgo HX0 hb1
   have HA1:=hid ((Row.below H4.out (HB0.out) (Row.lt H4.out)).below hb1 (Row.lt (Row.below H4.out (HB0.out) (Row.lt H4.out))))
   have b3:w1.cell? ⟨g+2+1,0,none⟩=some (.bool true):=hG3.out.cell 0
   have z0:w1.cell? ⟨w.heap.size,0,none⟩=some (.string x.owner):=HX1.out.cell 0
   have z1:w1.cell? ⟨w.heap.size,1,none⟩=some (.string x.denom):=HX1.out.cell 1
   have z2:w1.cell? ⟨w.heap.size,2,none⟩=some (.int .u64 (x.amount:Int)):=HX1.out.cell 2
   have fr3:=hG3.out.frozen 0
   have y0:=HA1.out.cell 0
   have y1:=HA1.out.cell 1
   have y2:=HA1.out.cell 2
   simp at y0
   simp at y1
   simp at y2
   have fra0:=HA1.out.frozen 0
   have fra1:=HA1.out.frozen 1
   have fra2:=HA1.out.frozen 2
   clear hb1
   obtain ⟨wz,hwz⟩:∃ wz,((((w1.setCell ⟨g+2,0,none⟩ (.string x.owner)).setCell ⟨g+2,1,none⟩ (.string x.denom)).setCell ⟨g+2,2,none⟩ (.int .u64 (x.amount:Int))).setCell ⟨g+2+1,0,none⟩ (.bool false))=wz:=⟨_,rfl⟩
   have HBZ:=hid (show Below g w wz by rw [← hwz];exact (((((HB1.out.mono hgw).setCell (show g≤g+2 by omega) _).setCell (show g≤g+2 by omega) _).setCell (show g≤g+2 by omega) _).setCell (show g≤g+2+1 by omega) _))
   have HRZ:=hid (show Yu wz g (some x) by
    rw [← hwz]
    refine ⟨?_,?_,?_,?_⟩
    ·exact Jk (Jk (Jk (Jk hG0.out (by omega)) (by omega)) (by omega)) (by omega)
    ·exact Jk (Jk (Jk (Jk hG1.out (by omega)) (by omega)) (by omega)) (by omega)
    ·exact (Jk (Jk (Jk hG3.out (by omega)) (by omega)) (by omega)).set 0 _
    ·exact Jk (((HA1.out.set 0 _).set 1 _).set 2 _) (by omega))
   have HWZ:=hid hwz
   clear hwz
   go_wp2
   go_ret
   first | rw [HWZ.out] | skip
   exact ⟨by rw [HNX.out];first | done | rfl,HBZ.out,fun _=>HRZ.out⟩
  | some a =>
   have hra:Row w (g+2) 86 [.string a.owner,.string a.denom,.int .u64 (a.amount:Int)]:=H4.out
   have hra0:=hra.below HB0.out hra.lt
   have HRA0:=hid hra0
   clear H4 hra hra0
   go_enter Tryz.func77,Tryz.ntmps77
   go_upto_region 1 with fail
   rw [HW0.out]
   go_wp2_with fail
   refine HWR.out.mono ?_
   rintro e w1 ⟨rfl,hb1⟩
   rw [HZ.out]
   have HB1:=hgo HB0 hb1
   have hE0:=rgo H00 hb1
   have hE1:=rgo H10 hb1
   have hE3:=rgo H30 hb1
   have HX1:=rgo HX0 hb1
   have HA1:=rgo HRA0 hb1
   have HCM:=hid (show Calls Tryz.prog 42 #[.agg #[.string a.owner,.string a.denom,.int .u64 (a.amount:Int)],.agg #[.string x.owner,.string x.denom,.int .u64 (x.amount:Int)]] w1 _ from Qbh a x w1)
   have b3:w1.cell? ⟨g+2+1,0,none⟩=some (.bool false):=hE3.out.cell 0
   have b1:w1.cell? ⟨g+1,0,none⟩=some (.func (.func 42) #[] #[]):=hE1.out.cell 0
   have q0:w1.cell? ⟨g+2,0,none⟩=some (.string a.owner):=HA1.out.cell 0
   have q1:w1.cell? ⟨g+2,1,none⟩=some (.string a.denom):=HA1.out.cell 1
   have q2:w1.cell? ⟨g+2,2,none⟩=some (.int .u64 (a.amount:Int)):=HA1.out.cell 2
   have z0:w1.cell? ⟨w.heap.size,0,none⟩=some (.string x.owner):=HX1.out.cell 0
   have z1:w1.cell? ⟨w.heap.size,1,none⟩=some (.string x.denom):=HX1.out.cell 1
   have z2:w1.cell? ⟨w.heap.size,2,none⟩=some (.int .u64 (x.amount:Int)):=HX1.out.cell 2
   clear hb1
   go_wp2_with fail
   refine HCM.out.mono ?_
   rintro e w2 ⟨rfl,hb2⟩
   have HB2:=hgo HB1 hb2
   have hG0:=rgo hE0 hb2
   have hG1:=rgo hE1 hb2
   have hG3:=rgo hE3 hb2
   have HX2:=rgo HX1 hb2
   have HA2:=rgo HA1 hb2
   clear hb2 b3 b1 q0 q1 q2 z0 z1 z2 x0 x1 x2 k0
   have z0:w2.cell? ⟨w.heap.size,0,none⟩=some (.string x.owner):=HX2.out.cell 0
   have z1:w2.cell? ⟨w.heap.size,1,none⟩=some (.string x.denom):=HX2.out.cell 1
   have z2:w2.cell? ⟨w.heap.size,2,none⟩=some (.int .u64 (x.amount:Int)):=HX2.out.cell 2
   have fr3:=hG3.out.frozen 0
   have y0:=HA2.out.cell 0
   have y1:=HA2.out.cell 1
   have y2:=HA2.out.cell 2
   simp at y0
   simp at y1
   simp at y2
   have b3:w2.cell? ⟨g+2+1,0,none⟩=some (.bool false):=hG3.out.cell 0
   have fra0:=HA2.out.frozen 0
   have fra1:=HA2.out.frozen 1
   have fra2:=HA2.out.frozen 2
   have HLC:=hid (Qgk a x)
   generalize hcz:orN [YP a.owner x.owner,YP a.denom x.denom]=zc at *
   clear hcz
   by_cases hlt:zc<0
   ·have e0:decide ((0:Int)≤zc)=false:=decide_eq_false (by omega)
    have HNX:=hid (show Yb (some a) x=0 by unfold Yb;rw [Zj,HLC.out,decide_eq_true hlt];simp [HZ.out])
    clear hlt HLC HCM
    obtain ⟨wz,hwz⟩:∃ wz,((((w2.setCell ⟨g+2,0,none⟩ (.string x.owner)).setCell ⟨g+2,1,none⟩ (.string x.denom)).setCell ⟨g+2,2,none⟩ (.int .u64 (x.amount:Int))).setCell ⟨g+2+1,0,none⟩ (.bool false))=wz:=⟨_,rfl⟩
    have HBZ:=hid (show Below g w wz by rw [← hwz];exact (((((HB2.out.mono hgw).setCell (show g≤g+2 by omega) _).setCell (show g≤g+2 by omega) _).setCell (show g≤g+2 by omega) _).setCell (show g≤g+2+1 by omega) _))
    have HRZ:=hid (show Yu wz g (some x) by
     rw [← hwz]
     refine ⟨?_,?_,?_,?_⟩
     ·exact Jk (Jk (Jk (Jk hG0.out (by omega)) (by omega)) (by omega)) (by omega)
     ·exact Jk (Jk (Jk (Jk hG1.out (by omega)) (by omega)) (by omega)) (by omega)
     ·exact (Jk (Jk (Jk hG3.out (by omega)) (by omega)) (by omega)).set 0 _
     ·exact Jk (((HA2.out.set 0 _).set 1 _).set 2 _) (by omega))
    have HWZ:=hid hwz
    clear hwz
    go_wp2
    go_ret
    first | rw [HWZ.out] | skip
    exact ⟨by rw [HNX.out];first | done | rfl,HBZ.out,fun _=>HRZ.out⟩
   ·have e0:decide ((0:Int)≤zc)=true:=decide_eq_true (by omega)
    have HNX:=hid (show Yb (some a) x=2 by unfold Yb;rw [Zj,HLC.out,decide_eq_false hlt];simp [HZ.out])
    clear hlt HLC HCM
    go_wp2
    go_ret
    exact ⟨by rw [HNX.out];first | done | rfl,HB2.out.mono hgw,fun h=>absurd h (by rw [HNX.out];decide)⟩
 ·have e0:(QD x != 0)=true:=by simpa using hz
  have HNX:=hid (show Yb p x=QD x by unfold Yb;rw [if_pos hz])
  have HNZ:=hid hz
  clear hz
  generalize hwx:QD x=zx at *
  clear hwx
  go_enter Tryz.func77,Tryz.ntmps77
  go_upto_region 1 with fail
  rw [HW0.out]
  go_wp2_with fail
  refine HWR.out.mono ?_
  rintro e w1 ⟨rfl,hb1⟩
  have HB1:=hgo HB0 hb1
  clear hb1
  go_wp2
  go_ret
  exact ⟨by rw [HNX.out];first | done | rfl,HB1.out.mono hgw,fun h=>absurd h (by rw [HNX.out];exact HNZ.out)⟩
theorem YX {α:Type} (f:α→Int) (l:List α) (k:Nat) (x:α) (h:l[k]?=some x):Qe f (l.drop k)=if f x≠0 then f x else Qe f (l.drop (k+1)):=by
 have hk:=(List.getElem?_eq_some_iff.1 h).1
 rw [List.drop_eq_getElem_cons hk,(List.getElem?_eq_some_iff.1 h).2,Qe]
theorem QdY {α:Type} (l:List α) (k:Nat) (x:α) (h:l[k]?=some x):l.drop k=x :: l.drop (k+1):=by
 have hk:=(List.getElem?_eq_some_iff.1 h).1
 rw [List.drop_eq_getElem_cons hk,(List.getElem?_eq_some_iff.1 h).2]
theorem QjY (l:List Cl) (sv:Value) (N:Nat) (w:World) (hN:N≤w.heap.size) (hv:QG ClR 4 w N sv l) (hl:l.length<2305843009213693952) (hfit:∀ c∈l,c.fits) :
  Calls Tryz.prog 29 #[sv,.func (.func 30) #[] #[]] w fun e w'=>e=.returned (.int .i64 (Qe Qi l))∧Below w.heap.size w w':=by
 obtain ⟨oa,ca,rfl,hca⟩:=hv.shape
 have HV:=hid hv
 clear hv
 generalize hn:l.length=n at *
 have HN:=hid hn
 clear hn
 go_enter Tryz.func29,Tryz.ntmps29
 go_wp2_with fail
 go_loopw [6,7,10] (fun _ _ i wr=>∃ k:Nat,k≤n∧i=.int .i64 (k:Int)∧Hid (Below w.heap.size w wr∧Qe Qi l=Qe Qi (l.drop k))) (fun _ _ i _=>n-(intOf i).toNat)
 case atStart=>exact ⟨0,by omega,rfl,hid ⟨Below.refl _ _,rfl⟩⟩
 case round =>
  obtain ⟨k,hk,rfl,HT⟩:=hrel
  have HBW:=hid HT.out.1
  have HUP:=hid HT.out.2
  clear HT
  have hszw:=HBW.out.size
  by_cases hlt:k<n
  ·obtain ⟨x,hx⟩:∃ x,l[k]?=some x:=⟨l[k]'(by rw [HN.out];exact hlt),List.getElem?_eq_getElem _⟩
   obtain ⟨b,o,rfl,hcells⟩:=HV.out.spot (by omega)
   obtain ⟨hbN,r,hr,hc⟩:=hcells k x hx
   obtain ⟨kv,rfl,hkn⟩:=hr
   obtain ⟨ok,ck,rfl,-⟩:=hkn.shape
   have hbl:b<w.heap.size:=by omega
   have f0:=cgo (hc 0 _ rfl) HBW hbl
   have f1:=cgo (hc 1 _ rfl) HBW hbl
   have f2:=cgo (hc 2 _ rfl) HBW hbl
   have f3:=cgo (hc 3 _ rfl) HBW hbl
   simp only [Nat.add_zero] at f0
   have hlt':(k:Int)<(n:Int):=by omega
   obtain ⟨w2,hw2⟩:∃ w2,wr.alloc (.cells #[.string x.chain,.int .i64 x.trust,.bool x.frozen,.slice ok x.known.length ck] 62)=w2:=⟨_,rfl⟩
   have hbr2:=bof hw2
   have HB2:=hid (HBW.out.trans (hbr2.mono hszw))
   have hrow2:Row w2 wr.heap.size 62 [.string x.chain,.int .i64 x.trust,.bool x.frozen,.slice ok x.known.length ck]:=by rw [← hw2];exact Row.new _ _ _
   have q0:w2.cell? ⟨wr.heap.size,0,none⟩=some (.string x.chain):=hrow2.cell 0
   have q1:w2.cell? ⟨wr.heap.size,1,none⟩=some (.int .i64 x.trust):=hrow2.cell 1
   have q2:w2.cell? ⟨wr.heap.size,2,none⟩=some (.bool x.frozen):=hrow2.cell 2
   have q3:w2.cell? ⟨wr.heap.size,3,none⟩=some (.slice ok x.known.length ck):=hrow2.cell 3
   have HCL:=hid (show Calls Tryz.prog 30 #[.agg #[.string x.chain,.int .i64 x.trust,.bool x.frozen,.slice ok x.known.length ck]] w2 _ from QeB x _ N w2 ⟨_,rfl,hkn.below (HB2.out.mono hN)⟩ (Nat.le_trans hN HB2.out.size) (hfit x (List.mem_of_getElem? hx)))
   have HST:=hid (YX Qi l k x hx)
   have HW2:=hid hw2
   clear hbr2 hrow2 hw2 hcells hc hkn hx
   by_cases hz:Qi x=0
   ·have HZ:=hid hz
    clear hz
    go_upto_region 4 with fail
    rw [HW2.out]
    go_wp2_with fail
    refine HCL.out.mono ?_
    rintro e w3 ⟨rfl,hb3⟩
    rw [HZ.out]
    have HB3:=hgo HB2 hb3
    have HV2:=hid (show Qe Qi l=Qe Qi (l.drop (k+1)) by rw [HUP.out,HST.out,if_neg (by rw [HZ.out];simp)])
    clear hb3
    go_wp2
    go_roundw
    case rel=>exact ⟨k+1,by omega,by go_num,hid ⟨HB3.out,HV2.out⟩⟩
    case measure=>simp [intOf];omega
   ·have e0:(Qi x != 0)=true:=by simpa using hz
    have HV2:=hid (show Qe Qi l=Qi x by rw [HUP.out,HST.out,if_pos hz])
    clear hz
    generalize hzz:Qi x=z at *
    clear hzz
    go_upto_region 4 with fail
    rw [HW2.out]
    go_wp2_with fail
    refine HCL.out.mono ?_
    rintro e w3 ⟨rfl,hb3⟩
    have HB3:=hgo HB2 hb3
    clear hb3
    go_wp2
    go_ret
    exact ⟨by rw [HV2.out];first | done | rfl,HB3.out⟩
  ·have hge:decide ((k:Int)<(n:Int))=false:=by simp;omega
   have HE:=hid (show Qe Qi l=0 by rw [HUP.out,List.drop_eq_nil_of_le (by rw [HN.out];omega)];rfl)
   go_wp2
   go_ret
   exact ⟨by rw [HE.out];first | done | rfl,HBW.out⟩
theorem QjQ (l:List Cn) (sv:Value) (N:Nat) (w:World) (hN:N≤w.heap.size) (hv:QG CnR 4 w N sv l) (hl:l.length<2305843009213693952) :
  Calls Tryz.prog 31 #[sv,.func (.func 32) #[] #[]] w fun e w'=>e=.returned (.int .i64 (Qe Qk l))∧Below w.heap.size w w':=by
 obtain ⟨oa,ca,rfl,hca⟩:=hv.shape
 have HV:=hid hv
 clear hv
 generalize hn:l.length=n at *
 have HN:=hid hn
 clear hn
 go_enter Tryz.func31,Tryz.ntmps31
 go_wp2_with fail
 go_loopw [6,7,10] (fun _ _ i wr=>∃ k:Nat,k≤n∧i=.int .i64 (k:Int)∧Hid (Below w.heap.size w wr∧Qe Qk l=Qe Qk (l.drop k))) (fun _ _ i _=>n-(intOf i).toNat)
 case atStart=>exact ⟨0,by omega,rfl,hid ⟨Below.refl _ _,rfl⟩⟩
 case round =>
  obtain ⟨k,hk,rfl,HT⟩:=hrel
  have HBW:=hid HT.out.1
  have HUP:=hid HT.out.2
  clear HT
  have hszw:=HBW.out.size
  by_cases hlt:k<n
  ·obtain ⟨x,hx⟩:∃ x,l[k]?=some x:=⟨l[k]'(by rw [HN.out];exact hlt),List.getElem?_eq_getElem _⟩
   obtain ⟨b,o,rfl,hcells⟩:=HV.out.spot (by omega)
   obtain ⟨hbN,r,hr,hc⟩:=hcells k x hx
   subst hr
   have hbl:b<w.heap.size:=by omega
   have f0:=cgo (hc 0 _ rfl) HBW hbl
   have f1:=cgo (hc 1 _ rfl) HBW hbl
   have f2:=cgo (hc 2 _ rfl) HBW hbl
   have f3:=cgo (hc 3 _ rfl) HBW hbl
   simp only [Nat.add_zero] at f0
   have hlt':(k:Int)<(n:Int):=by omega
   obtain ⟨w2,hw2⟩:∃ w2,wr.alloc (.cells #[.int .i64 x.state,.int .i64 x.client,.int .i64 x.oclient,.int .i64 x.oconn] 58)=w2:=⟨_,rfl⟩
   have hbr2:=bof hw2
   have HB2:=hid (HBW.out.trans (hbr2.mono hszw))
   have hrow2:Row w2 wr.heap.size 58 [.int .i64 x.state,.int .i64 x.client,.int .i64 x.oclient,.int .i64 x.oconn]:=by rw [← hw2];exact Row.new _ _ _
   have q0:w2.cell? ⟨wr.heap.size,0,none⟩=some (.int .i64 x.state):=hrow2.cell 0
   have q1:w2.cell? ⟨wr.heap.size,1,none⟩=some (.int .i64 x.client):=hrow2.cell 1
   have q2:w2.cell? ⟨wr.heap.size,2,none⟩=some (.int .i64 x.oclient):=hrow2.cell 2
   have q3:w2.cell? ⟨wr.heap.size,3,none⟩=some (.int .i64 x.oconn):=hrow2.cell 3
   have HCL:=hid (show Calls Tryz.prog 32 #[.agg #[.int .i64 x.state,.int .i64 x.client,.int .i64 x.oclient,.int .i64 x.oconn]] w2 _ from Qc6 x w2)
   have HST:=hid (YX Qk l k x hx)
   have HW2:=hid hw2
   clear hbr2 hrow2 hw2 hcells hc hx
   by_cases hz:Qk x=0
   ·have HZ:=hid hz
    clear hz
    go_upto_region 4 with fail
    rw [HW2.out]
    go_wp2_with fail
    refine HCL.out.mono ?_
    rintro e w3 ⟨rfl,hb3⟩
    rw [HZ.out]
    have HB3:=hgo HB2 hb3
    have HV2:=hid (show Qe Qk l=Qe Qk (l.drop (k+1)) by rw [HUP.out,HST.out,if_neg (by rw [HZ.out];simp)])
    clear hb3
    go_wp2
    go_roundw
    case rel=>exact ⟨k+1,by omega,by go_num,hid ⟨HB3.out,HV2.out⟩⟩
    case measure=>simp [intOf];omega
   ·have e0:(Qk x != 0)=true:=by simpa using hz
    have HV2:=hid (show Qe Qk l=Qk x by rw [HUP.out,HST.out,if_pos hz])
    clear hz
    generalize hzz:Qk x=z at *
    clear hzz
    go_upto_region 4 with fail
    rw [HW2.out]
    go_wp2_with fail
    refine HCL.out.mono ?_
    rintro e w3 ⟨rfl,hb3⟩
    have HB3:=hgo HB2 hb3
    clear hb3
    go_wp2
    go_ret
    exact ⟨by rw [HV2.out];first | done | rfl,HB3.out⟩
  ·have hge:decide ((k:Int)<(n:Int))=false:=by simp;omega
   have HE:=hid (show Qe Qk l=0 by rw [HUP.out,List.drop_eq_nil_of_le (by rw [HN.out];omega)];rfl)
   go_wp2
   go_ret
   exact ⟨by rw [HE.out];first | done | rfl,HBW.out⟩
theorem Qjs (l:List Ch) (sv:Value) (N:Nat) (w:World) (hN:N≤w.heap.size) (hv:QG ChR 7 w N sv l) (hl:l.length<2305843009213693952) :
  Calls Tryz.prog 33 #[sv,.func (.func 34) #[] #[]] w fun e w'=>e=.returned (.int .i64 (Qe Ql l))∧Below w.heap.size w w':=by
 obtain ⟨oa,ca,rfl,hca⟩:=hv.shape
 have HV:=hid hv
 clear hv
 generalize hn:l.length=n at *
 have HN:=hid hn
 clear hn
 go_enter Tryz.func33,Tryz.ntmps33
 go_wp2_with fail
 go_loopw [6,7,10] (fun _ _ i wr=>∃ k:Nat,k≤n∧i=.int .i64 (k:Int)∧Hid (Below w.heap.size w wr∧Qe Ql l=Qe Ql (l.drop k))) (fun _ _ i _=>n-(intOf i).toNat)
 case atStart=>exact ⟨0,by omega,rfl,hid ⟨Below.refl _ _,rfl⟩⟩
 case round =>
  obtain ⟨k,hk,rfl,HT⟩:=hrel
  have HBW:=hid HT.out.1
  have HUP:=hid HT.out.2
  clear HT
  have hszw:=HBW.out.size
  by_cases hlt:k<n
  ·obtain ⟨x,hx⟩:∃ x,l[k]?=some x:=⟨l[k]'(by rw [HN.out];exact hlt),List.getElem?_eq_getElem _⟩
   obtain ⟨b,o,rfl,hcells⟩:=HV.out.spot (by omega)
   obtain ⟨hbN,r,hr,hc⟩:=hcells k x hx
   subst hr
   have hbl:b<w.heap.size:=by omega
   have f0:=cgo (hc 0 _ rfl) HBW hbl
   have f1:=cgo (hc 1 _ rfl) HBW hbl
   have f2:=cgo (hc 2 _ rfl) HBW hbl
   have f3:=cgo (hc 3 _ rfl) HBW hbl
   have f4:=cgo (hc 4 _ rfl) HBW hbl
   have f5:=cgo (hc 5 _ rfl) HBW hbl
   have f6:=cgo (hc 6 _ rfl) HBW hbl
   simp only [Nat.add_zero] at f0
   have hlt':(k:Int)<(n:Int):=by omega
   obtain ⟨w2,hw2⟩:∃ w2,wr.alloc (.cells #[.int .i64 x.state,.bool x.ordered,.int .i64 x.conn,.int .i64 x.ochan,.int .i64 x.send,.int .i64 x.recv,.int .i64 x.ack] 75)=w2:=⟨_,rfl⟩
   have hbr2:=bof hw2
   have HB2:=hid (HBW.out.trans (hbr2.mono hszw))
   have hrow2:Row w2 wr.heap.size 75 [.int .i64 x.state,.bool x.ordered,.int .i64 x.conn,.int .i64 x.ochan,.int .i64 x.send,.int .i64 x.recv,.int .i64 x.ack]:=by rw [← hw2];exact Row.new _ _ _
   have q0:w2.cell? ⟨wr.heap.size,0,none⟩=some (.int .i64 x.state):=hrow2.cell 0
   have q1:w2.cell? ⟨wr.heap.size,1,none⟩=some (.bool x.ordered):=hrow2.cell 1
   have q2:w2.cell? ⟨wr.heap.size,2,none⟩=some (.int .i64 x.conn):=hrow2.cell 2
   have q3:w2.cell? ⟨wr.heap.size,3,none⟩=some (.int .i64 x.ochan):=hrow2.cell 3
   have q4:w2.cell? ⟨wr.heap.size,4,none⟩=some (.int .i64 x.send):=hrow2.cell 4
   have q5:w2.cell? ⟨wr.heap.size,5,none⟩=some (.int .i64 x.recv):=hrow2.cell 5
   have q6:w2.cell? ⟨wr.heap.size,6,none⟩=some (.int .i64 x.ack):=hrow2.cell 6
   have HCL:=hid (show Calls Tryz.prog 34 #[.agg #[.int .i64 x.state,.bool x.ordered,.int .i64 x.conn,.int .i64 x.ochan,.int .i64 x.send,.int .i64 x.recv,.int .i64 x.ack]] w2 _ from Qdb x w2)
   have HST:=hid (YX Ql l k x hx)
   have HW2:=hid hw2
   clear hbr2 hrow2 hw2 hcells hc hx
   by_cases hz:Ql x=0
   ·have HZ:=hid hz
    clear hz
    go_upto_region 4 with fail
    rw [HW2.out]
    go_wp2_with fail
    refine HCL.out.mono ?_
    rintro e w3 ⟨rfl,hb3⟩
    rw [HZ.out]
    have HB3:=hgo HB2 hb3
    have HV2:=hid (show Qe Ql l=Qe Ql (l.drop (k+1)) by rw [HUP.out,HST.out,if_neg (by rw [HZ.out];simp)])
    clear hb3
    go_wp2
    go_roundw
    case rel=>exact ⟨k+1,by omega,by go_num,hid ⟨HB3.out,HV2.out⟩⟩
    case measure=>simp [intOf];omega
   ·have e0:(Ql x != 0)=true:=by simpa using hz
    have HV2:=hid (show Qe Ql l=Ql x by rw [HUP.out,HST.out,if_pos hz])
    clear hz
    generalize hzz:Ql x=z at *
    clear hzz
    go_upto_region 4 with fail
    rw [HW2.out]
    go_wp2_with fail
    refine HCL.out.mono ?_
    rintro e w3 ⟨rfl,hb3⟩
    have HB3:=hgo HB2 hb3
    clear hb3
    go_wp2
    go_ret
    exact ⟨by rw [HV2.out];first | done | rfl,HB3.out⟩
  ·have hge:decide ((k:Int)<(n:Int))=false:=by simp;omega
   have HE:=hid (show Qe Ql l=0 by rw [HUP.out,List.drop_eq_nil_of_le (by rw [HN.out];omega)];rfl)
   go_wp2
   go_ret
   exact ⟨by rw [HE.out];first | done | rfl,HBW.out⟩
theorem QdV (l:List Mk) (sv:Value) (N g:Nat) (w:World) (hR:Jm w g none) (hN:N≤g) (hv:QG MkR 3 w N sv l) (hl:l.length<2305843009213693952) :
  Calls Tryz.prog 35 #[sv,YS g] w fun e w'=>e=.returned (.int .i64 (Qq l))∧Below g w w':=by
 have hgw:g+2+1<w.heap.size:=hR.2.2.1.lt
 have HRI:=hid hR
 unfold YS
 clear hR
 obtain ⟨oa,ca,rfl,hca⟩:=hv.shape
 have HV:=hid hv
 clear hv
 generalize hn:l.length=n at *
 have HN:=hid hn
 clear hn
 go_enter Tryz.func35,Tryz.ntmps35
 go_wp2_with fail
 go_loopw [6,7,10] (fun _ _ i wr=>∃ k:Nat,k≤n∧i=.int .i64 (k:Int)∧Hid (∃ p,Jm wr g p∧Below g w wr∧Qq l=YR QB QT p (l.drop k))) (fun _ _ i _=>n-(intOf i).toNat)
 case atStart=>exact ⟨0,by omega,rfl,hid ⟨none,HRI.out,Below.refl _ _,rfl⟩⟩
 case round =>
  obtain ⟨k,hk,rfl,HT⟩:=hrel
  obtain ⟨p,hri,hbw,hup⟩:=HT.out
  have HBW:=hid hbw
  have HRI2:=hid hri
  have HUP:=hid hup
  clear HT hri hbw hup
  have hszw:=HBW.out.size
  by_cases hlt:k<n
  ·obtain ⟨x,hx⟩:∃ x,l[k]?=some x:=⟨l[k]'(by rw [HN.out];exact hlt),List.getElem?_eq_getElem _⟩
   obtain ⟨b,o,rfl,hcells⟩:=HV.out.spot (by omega)
   obtain ⟨hbN,r,hr,hc⟩:=hcells k x hx
   obtain ⟨dv,rfl,hdv⟩:=hr
   obtain ⟨od,cd,rfl,-⟩:=hdv.shape
   have hbl:b<g:=by omega
   have f0:=cgo (hc 0 _ rfl) HBW hbl
   have f1:=cgo (hc 1 _ rfl) HBW hbl
   have f2:=cgo (hc 2 _ rfl) HBW hbl
   simp only [Nat.add_zero] at f0
   have hlt':(k:Int)<(n:Int):=by omega
   obtain ⟨w2,hw2⟩:∃ w2,wr.alloc (.cells #[.int .i64 x.chan,.int .i64 x.seq,.slice od x.dig.length cd] 79)=w2:=⟨_,rfl⟩
   have hbr2:=bof hw2
   have HB2:=hid (HBW.out.trans (hbr2.mono (show g≤wr.heap.size by omega)))
   have hrow2:Row w2 wr.heap.size 79 [.int .i64 x.chan,.int .i64 x.seq,.slice od x.dig.length cd]:=by rw [← hw2];exact Row.new _ _ _
   have q0:w2.cell? ⟨wr.heap.size,0,none⟩=some (.int .i64 x.chan):=hrow2.cell 0
   have q1:w2.cell? ⟨wr.heap.size,1,none⟩=some (.int .i64 x.seq):=hrow2.cell 1
   have q2:w2.cell? ⟨wr.heap.size,2,none⟩=some (.slice od x.dig.length cd):=hrow2.cell 2
   have HRI3:=hid (HRI2.out.below hbr2)
   have HCL:=hid (show Calls Tryz.prog 74 #[.agg #[.int .i64 x.chan,.int .i64 x.seq,.slice od x.dig.length cd],.pointer (some ⟨g,0,none⟩),.pointer (some ⟨g+2+1,0,none⟩),.pointer (some ⟨g+1,0,none⟩),.pointer (some ⟨g+2,0,none⟩)] w2 _ from Qf3 p x od cd g w2 HRI3.out)
   have HST:=hid ((congrArg (YR QB QT p) (QdY l k x hx)).trans (Qky p x (l.drop (k+1))))
   have HW2:=hid hw2
   clear hbr2 hrow2 hw2 hcells hc hdv hx
   by_cases hz:J9 p x=0
   ·have HZ:=hid hz
    clear hz
    go_upto_region 4 with fail
    rw [HW2.out]
    go_wp2_with fail
    refine HCL.out.mono ?_
    rintro e w3 ⟨rfl,hb3,hri3⟩
    rw [HZ.out]
    have HB3:=hid (HB2.out.trans hb3)
    have HRI4:=hid (hri3 HZ.out)
    clear hri3
    have HV2:=hid (show Qq l=YR QB QT (some x) (l.drop (k+1)) by rw [HUP.out,HST.out,if_neg (by rw [HZ.out];simp)])
    clear hb3
    go_wp2
    go_roundw
    case rel=>exact ⟨k+1,by omega,by go_num,hid ⟨some x,HRI4.out,HB3.out,HV2.out⟩⟩
    case measure=>simp [intOf];omega
   ·have e0:(J9 p x != 0)=true:=by simpa using hz
    have HV2:=hid (show Qq l=J9 p x by rw [HUP.out,HST.out,if_pos hz])
    clear hz
    generalize hzz:J9 p x=z at *
    clear hzz
    go_upto_region 4 with fail
    rw [HW2.out]
    go_wp2_with fail
    refine HCL.out.mono ?_
    rintro e w3 ⟨rfl,hb3,hri3⟩
    have HB3:=hid (HB2.out.trans hb3)
    clear hb3
    go_wp2
    go_ret
    exact ⟨by rw [HV2.out];first | done | rfl,HB3.out⟩
  ·have hge:decide ((k:Int)<(n:Int))=false:=by simp;omega
   have HE:=hid (show Qq l=0 by rw [HUP.out,List.drop_eq_nil_of_le (by rw [HN.out];omega)];rfl)
   go_wp2
   go_ret
   exact ⟨by rw [HE.out];first | done | rfl,HBW.out⟩
theorem Qjp (l:List Pu) (sv:Value) (N g:Nat) (w:World) (hR:Yu w g none) (hN:N≤g) (hv:QG PuR 3 w N sv l) (hl:l.length<2305843009213693952) :
  Calls Tryz.prog 39 #[sv,Qb2 g] w fun e w'=>e=.returned (.int .i64 (QE l))∧Below g w w':=by
 have hgw:g+2+1<w.heap.size:=hR.2.2.1.lt
 have HRI:=hid hR
 unfold Qb2
 clear hR
 obtain ⟨oa,ca,rfl,hca⟩:=hv.shape
 have HV:=hid hv
 clear hv
 generalize hn:l.length=n at *
 have HN:=hid hn
 clear hn
 go_enter Tryz.func39,Tryz.ntmps39
 go_wp2_with fail
 go_loopw [6,7,10] (fun _ _ i wr=>∃ k:Nat,k≤n∧i=.int .i64 (k:Int)∧Hid (∃ p,Yu wr g p∧Below g w wr∧QE l=YR QD Je p (l.drop k))) (fun _ _ i _=>n-(intOf i).toNat)
 case atStart=>exact ⟨0,by omega,rfl,hid ⟨none,HRI.out,Below.refl _ _,rfl⟩⟩
 case round =>
  obtain ⟨k,hk,rfl,HT⟩:=hrel
  obtain ⟨p,hri,hbw,hup⟩:=HT.out
  have HBW:=hid hbw
  have HRI2:=hid hri
  have HUP:=hid hup
  clear HT hri hbw hup
  have hszw:=HBW.out.size
  by_cases hlt:k<n
  ·obtain ⟨x,hx⟩:∃ x,l[k]?=some x:=⟨l[k]'(by rw [HN.out];exact hlt),List.getElem?_eq_getElem _⟩
   obtain ⟨b,o,rfl,hcells⟩:=HV.out.spot (by omega)
   obtain ⟨hbN,r,hr,hc⟩:=hcells k x hx
   subst hr
   have hbl:b<g:=by omega
   have f0:=cgo (hc 0 _ rfl) HBW hbl
   have f1:=cgo (hc 1 _ rfl) HBW hbl
   have f2:=cgo (hc 2 _ rfl) HBW hbl
   simp only [Nat.add_zero] at f0
   have hlt':(k:Int)<(n:Int):=by omega
   obtain ⟨w2,hw2⟩:∃ w2,wr.alloc (.cells #[.string x.owner,.string x.denom,.int .u64 (x.amount:Int)] 86)=w2:=⟨_,rfl⟩
   have hbr2:=bof hw2
   have HB2:=hid (HBW.out.trans (hbr2.mono (show g≤wr.heap.size by omega)))
   have hrow2:Row w2 wr.heap.size 86 [.string x.owner,.string x.denom,.int .u64 (x.amount:Int)]:=by rw [← hw2];exact Row.new _ _ _
   have q0:w2.cell? ⟨wr.heap.size,0,none⟩=some (.string x.owner):=hrow2.cell 0
   have q1:w2.cell? ⟨wr.heap.size,1,none⟩=some (.string x.denom):=hrow2.cell 1
   have q2:w2.cell? ⟨wr.heap.size,2,none⟩=some (.int .u64 (x.amount:Int)):=hrow2.cell 2
   have HRI3:=hid (HRI2.out.below hbr2)
   have HCL:=hid (show Calls Tryz.prog 77 #[.agg #[.string x.owner,.string x.denom,.int .u64 (x.amount:Int)],.pointer (some ⟨g,0,none⟩),.pointer (some ⟨g+2+1,0,none⟩),.pointer (some ⟨g+1,0,none⟩),.pointer (some ⟨g+2,0,none⟩)] w2 _ from QfS p x g w2 HRI3.out)
   have HST:=hid ((congrArg (YR QD Je p) (QdY l k x hx)).trans (Qkn p x (l.drop (k+1))))
   have HW2:=hid hw2
   clear hbr2 hrow2 hw2 hcells hc hx
   by_cases hz:Yb p x=0
   ·have HZ:=hid hz
    clear hz
    go_upto_region 4 with fail
    rw [HW2.out]
    go_wp2_with fail
    refine HCL.out.mono ?_
    rintro e w3 ⟨rfl,hb3,hri3⟩
    rw [HZ.out]
    have HB3:=hid (HB2.out.trans hb3)
    have HRI4:=hid (hri3 HZ.out)
    clear hri3
    have HV2:=hid (show QE l=YR QD Je (some x) (l.drop (k+1)) by rw [HUP.out,HST.out,if_neg (by rw [HZ.out];simp)])
    clear hb3
    go_wp2
    go_roundw
    case rel=>exact ⟨k+1,by omega,by go_num,hid ⟨some x,HRI4.out,HB3.out,HV2.out⟩⟩
    case measure=>simp [intOf];omega
   ·have e0:(Yb p x != 0)=true:=by simpa using hz
    have HV2:=hid (show QE l=Yb p x by rw [HUP.out,HST.out,if_pos hz])
    clear hz
    generalize hzz:Yb p x=z at *
    clear hzz
    go_upto_region 4 with fail
    rw [HW2.out]
    go_wp2_with fail
    refine HCL.out.mono ?_
    rintro e w3 ⟨rfl,hb3,hri3⟩
    have HB3:=hid (HB2.out.trans hb3)
    clear hb3
    go_wp2
    go_ret
    exact ⟨by rw [HV2.out];first | done | rfl,HB3.out⟩
  ·have hge:decide ((k:Int)<(n:Int))=false:=by simp;omega
   have HE:=hid (show QE l=0 by rw [HUP.out,List.drop_eq_nil_of_le (by rw [HN.out];omega)];rfl)
   go_wp2
   go_ret
   exact ⟨by rw [HE.out];first | done | rfl,HBW.out⟩
end Go.Proofs.YtooemgkjkngpcaaGreatDoor
