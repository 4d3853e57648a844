/-
  Parts of variables; what app.changed, made and sent answer.
-/
import Derived.Test.YtbjlfhabnjpdmaaGreatDoorlaFrKit
import Derived.Deep.MidRow
import Derived.Deep.Cut
namespace Go.Proofs.YtbjlfhabnjpdmaaGreatDoor
open Go.RowKit

theorem structMsg : Struct 53 62 := ⟨⟨_, Tryz.underlying53, rfl⟩, by kernel_rfl⟩
theorem structDone : Struct 56 7 := ⟨⟨_, Tryz.underlying56, rfl⟩, by kernel_rfl⟩
theorem structTr : Struct 49 4 := ⟨⟨_, Tryz.underlying49, rfl⟩, by kernel_rfl⟩
/-- a part of a variable is read -/
theorem Fr.loadMid {ops : Array Oper} {rest : List Oper} {op : Oper} {a : Act} {w w1 : World} {Q : Exit → Act → World → Prop} {l : List Bx} {g : Nat} {t t' : TypeId} {x : Operand} {cs : List Value} (F : Fr w l w1) (i o : Nat) (ds : List Value) (hgd : op.guard = none) (ho : op.op = .load t' x) (hx : a.eval x = .pointer (some ⟨g, o, none⟩)) (hi : l[i]? = some (g, t, cs)) (hc : (cs.drop o).take ds.length = ds) (hs : Struct t' ds.length)
    (h : wpList Tryz.prog ops Q rest (a.put op.dst (.agg ds.toArray)) w1) : wpList Tryz.prog ops Q (op :: rest) a w1 := by
  obtain ⟨⟨d, hu, hd⟩, hz⟩ := hs
  refine wpList_load_mid hgd t' x ho g o hx ds d (fun j v hj => ?_) hu (by cases d <;> first | rfl | cases hd) hz h
  have hr : Row w1 g t cs := F.rows _ (List.mem_of_getElem? hi)
  refine (hr.cell (o + j)).trans ?_
  rw [← hc, List.getElem?_take] at hj
  split at hj
  · rw [List.getElem?_drop] at hj
    exact hj
  · cases hj
theorem ret_cc {fn : Func} {R : Ending → World → Prop} {a : Act} {w : World} {s g u h : Nat} {t t' : TypeId} {cs ds : List Value} (hf : fn.results = #[.cell s t, .cell u t']) (hs : a.tmps.getD s undef = .pointer (some ⟨g, 0, none⟩)) (hr : Row w g t cs) (ht : Struct t cs.length) (hu : a.tmps.getD u undef = .pointer (some ⟨h, 0, none⟩)) (hr' : Row w h t' ds) (ht' : Struct t' ds.length) (hd : a.defers = []) (hR : R (.returned (.tuple #[.agg cs.toArray, .agg ds.toArray])) w) : bodyPost Tryz.prog fn R .ret a w := by
  have hs' : a.tmps[s]?.getD undef = .pointer (some ⟨g, 0, none⟩) := by simpa using hs
  have hu' : a.tmps[u]?.getD undef = .pointer (some ⟨h, 0, none⟩) := by simpa using hu
  exact bodyPost_ret (by simp [results, hf, hs', hu', asAddr, load_struct hr ht, load_struct hr' ht']) hd hR
set_option maxRecDepth 100000 in
set_option maxHeartbeats 4000000 in
theorem changed_any (nm : ByteArray) (hh tt : Int) (o0 o1 o2 o3 o4 o5 o6 : Option Addr) (n0 n1 n2 n3 n4 n5 n6 c0 c1 c2 c3 c4 c5 c6 : Nat) (e : Int) (w : World) :
    Calls Tryz.prog 48 #[.agg #[.string nm, .int .i64 hh, .int .i64 tt, .slice o0 n0 c0, .slice o1 n1 c1, .slice o2 n2 c2, .slice o3 n3 c3, .slice o4 n4 c4, .slice o5 n5 c5, .slice o6 n6 c6], .int .i64 e] w fun x w' => x = .returned (.tuple #[.agg #[.string nm, .int .i64 hh, .int .i64 tt, .slice o0 n0 c0, .slice o1 n1 c1, .slice o2 n2 c2, .slice o3 n3 c3, .slice o4 n4 c4, .slice o5 n5 c5, .slice o6 n6 c6], .agg #[.int .i64 e, .int .i64 0, .int .i64 0, .int .i64 0, .int .i64 0, .slice none 0 0, .int .i64 0]]) ∧ Below w.heap.size w w' := by
  go_enter Tryz.func48, Tryz.ntmps48
  go_upto_region 1 with fail
  refine fbox3 ?_
  intro w0 F0 hs
  clear hs
  go_wp2_with (first | refine F0.load 0 rfl rfl rfl rfl structState ?_ | (refine F0.store 1 rfl rfl rfl rfl rfl structState rfl (by simp [Value.oneCell']) ?_; intro w1 F1 O1) | (refine F1.store 2 rfl rfl rfl rfl rfl structDone rfl (by simp [Value.oneCell']) ?_; intro w2 F2 O2))
  exact ret_cc Tryz.results48 rfl F2.r1 structState rfl F2.r2 structDone rfl ⟨rfl, F2.b⟩
end Go.Proofs.YtbjlfhabnjpdmaaGreatDoor
