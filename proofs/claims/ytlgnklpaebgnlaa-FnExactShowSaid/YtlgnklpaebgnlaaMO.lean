/-
  An argument that is a Code, opened.
  An argument that is a Table, opened.
  An argument that is a Cell, opened.
  An argument that is a Frame, opened.
  An argument that is a Thread, opened.
  An argument that is a Msg, opened.
  An argument that is a Machine, opened.
-/
import Derived.Test.YtlgnklpaebgnlaaDtOpen
namespace Go.Proofs.Ytlgnklpaebgnlaa
open Go.RowKit Go.Joins

set_option maxRecDepth 100000

theorem openCode : OpenC 143 CodeR := by
  intro H enc w spare held fuel cs x h
  obtain ⟨ys, m, hm, _, hl, hlen, hg⟩ := DataW.trod_struct Try.underlying143 h
  have hl' : cs.length = 4 := hl.trans (by kernel_rfl)
  obtain ⟨c0, c1, c2, c3, rfl⟩ : ∃ c0 c1 c2 c3, cs = [c0, c1, c2, c3] := by
    match cs, hl' with
    | [c0, c1, c2, c3], _ => exact ⟨c0, c1, c2, c3, rfl⟩
  have hy : ys.length = 4 := hlen
  obtain ⟨y0, y1, y2, y3, rfl⟩ : ∃ y0 y1 y2 y3, ys = [y0, y1, y2, y3] := by
    match ys, hy with
    | [y0, y1, y2, y3], _ => exact ⟨y0, y1, y2, y3, rfl⟩
  have g0 : DataW.trod enc Try.prog w 0 spare held m 3 (([c0, c1, c2, c3].drop 0).take (Try.prog.cellsOf 3)) = some y0 := hg 0 _ rfl
  rw [show Try.prog.cellsOf 3 = 1 from by kernel_rfl] at g0
  obtain ⟨_, ⟨z0, rfl⟩, a0⟩ := openInt _ _ _ _ _ _ [c0] _ g0
  have g1 : DataW.trod enc Try.prog w 0 spare held m 3 (([c0, c1, c2, c3].drop 1).take (Try.prog.cellsOf 3)) = some y1 := hg 1 _ rfl
  rw [show Try.prog.cellsOf 3 = 1 from by kernel_rfl] at g1
  obtain ⟨_, ⟨z1, rfl⟩, a1⟩ := openInt _ _ _ _ _ _ [c1] _ g1
  have g2 : DataW.trod enc Try.prog w 0 spare held m 9 (([c0, c1, c2, c3].drop 2).take (Try.prog.cellsOf 9)) = some y2 := hg 2 _ rfl
  rw [show Try.prog.cellsOf 9 = 1 from by kernel_rfl] at g2
  obtain ⟨_, ⟨b2, rfl⟩, a2⟩ := openString _ _ _ _ _ _ [c2] _ g2
  have g3 : DataW.trod enc Try.prog w 0 spare held m 23 (([c0, c1, c2, c3].drop 3).take (Try.prog.cellsOf 23)) = some y3 := hg 3 _ rfl
  rw [show Try.prog.cellsOf 23 = 1 from by kernel_rfl] at g3
  obtain ⟨u3, x3, hu3, q3, a3⟩ := openIntS _ _ _ _ _ _ [c3] _ g3
  obtain rfl : c3 = u3 := by simpa using hu3
  exact ⟨[.int z0, .int z1, .str b2, .row x3], ⟨_, _, _, _, rfl, q3⟩, a0.1, a1.1, a2.1, a3, trivial⟩
theorem openCodeS : OpenS 22 CodeR := open_slice Try.underlying22 (by kernel_rfl) CodeR.len (by omega) openCode

end Go.Proofs.Ytlgnklpaebgnlaa

namespace Go.Proofs.Ytlgnklpaebgnlaa
open Go.RowKit Go.Joins

set_option maxRecDepth 100000

theorem openTable : OpenC 25 TableR := by
  intro H enc w spare held fuel cs x h
  obtain ⟨ys, m, hm, _, hl, hlen, hg⟩ := DataW.trod_struct Try.underlying25 h
  have hl' : cs.length = 2 := hl.trans (by kernel_rfl)
  obtain ⟨c0, c1, rfl⟩ : ∃ c0 c1, cs = [c0, c1] := by
    match cs, hl' with
    | [c0, c1], _ => exact ⟨c0, c1, rfl⟩
  have hy : ys.length = 2 := hlen
  obtain ⟨y0, y1, rfl⟩ : ∃ y0 y1, ys = [y0, y1] := by
    match ys, hy with
    | [y0, y1], _ => exact ⟨y0, y1, rfl⟩
  have g0 : DataW.trod enc Try.prog w 0 spare held m 22 (([c0, c1].drop 0).take (Try.prog.cellsOf 22)) = some y0 := hg 0 _ rfl
  rw [show Try.prog.cellsOf 22 = 1 from by kernel_rfl] at g0
  obtain ⟨u0, x0, hu0, q0, a0⟩ := openCodeS _ _ _ _ _ _ [c0] _ g0
  obtain rfl : c0 = u0 := by simpa using hu0
  have g1 : DataW.trod enc Try.prog w 0 spare held m 23 (([c0, c1].drop 1).take (Try.prog.cellsOf 23)) = some y1 := hg 1 _ rfl
  rw [show Try.prog.cellsOf 23 = 1 from by kernel_rfl] at g1
  obtain ⟨u1, x1, hu1, q1, a1⟩ := openIntS _ _ _ _ _ _ [c1] _ g1
  obtain rfl : c1 = u1 := by simpa using hu1
  exact ⟨[.row x0, .row x1], ⟨_, _, rfl, q0, q1⟩, a0, a1, trivial⟩

end Go.Proofs.Ytlgnklpaebgnlaa

namespace Go.Proofs.Ytlgnklpaebgnlaa
open Go.RowKit Go.Joins

set_option maxRecDepth 100000

theorem openCell : OpenC 101 CellR := by
  intro H enc w spare held fuel cs x h
  obtain ⟨ys, m, hm, _, hl, hlen, hg⟩ := DataW.trod_struct Try.underlying101 h
  have hl' : cs.length = 4 := hl.trans (by kernel_rfl)
  obtain ⟨c0, c1, c2, c3, rfl⟩ : ∃ c0 c1 c2 c3, cs = [c0, c1, c2, c3] := by
    match cs, hl' with
    | [c0, c1, c2, c3], _ => exact ⟨c0, c1, c2, c3, rfl⟩
  have hy : ys.length = 4 := hlen
  obtain ⟨y0, y1, y2, y3, rfl⟩ : ∃ y0 y1 y2 y3, ys = [y0, y1, y2, y3] := by
    match ys, hy with
    | [y0, y1, y2, y3], _ => exact ⟨y0, y1, y2, y3, rfl⟩
  have g0 : DataW.trod enc Try.prog w 0 spare held m 3 (([c0, c1, c2, c3].drop 0).take (Try.prog.cellsOf 3)) = some y0 := hg 0 _ rfl
  rw [show Try.prog.cellsOf 3 = 1 from by kernel_rfl] at g0
  obtain ⟨_, ⟨z0, rfl⟩, a0⟩ := openInt _ _ _ _ _ _ [c0] _ g0
  have g1 : DataW.trod enc Try.prog w 0 spare held m 3 (([c0, c1, c2, c3].drop 1).take (Try.prog.cellsOf 3)) = some y1 := hg 1 _ rfl
  rw [show Try.prog.cellsOf 3 = 1 from by kernel_rfl] at g1
  obtain ⟨_, ⟨z1, rfl⟩, a1⟩ := openInt _ _ _ _ _ _ [c1] _ g1
  have g2 : DataW.trod enc Try.prog w 0 spare held m 3 (([c0, c1, c2, c3].drop 2).take (Try.prog.cellsOf 3)) = some y2 := hg 2 _ rfl
  rw [show Try.prog.cellsOf 3 = 1 from by kernel_rfl] at g2
  obtain ⟨_, ⟨z2, rfl⟩, a2⟩ := openInt _ _ _ _ _ _ [c2] _ g2
  have g3 : DataW.trod enc Try.prog w 0 spare held m 23 (([c0, c1, c2, c3].drop 3).take (Try.prog.cellsOf 23)) = some y3 := hg 3 _ rfl
  rw [show Try.prog.cellsOf 23 = 1 from by kernel_rfl] at g3
  obtain ⟨u3, x3, hu3, q3, a3⟩ := openIntS _ _ _ _ _ _ [c3] _ g3
  obtain rfl : c3 = u3 := by simpa using hu3
  exact ⟨[.int z0, .int z1, .int z2, .row x3], ⟨_, _, _, _, rfl, q3⟩, a0.1, a1.1, a2.1, a3, trivial⟩
theorem openCellS : OpenS 26 CellR := open_slice Try.underlying26 (by kernel_rfl) CellR.len (by omega) openCell

end Go.Proofs.Ytlgnklpaebgnlaa

namespace Go.Proofs.Ytlgnklpaebgnlaa
open Go.RowKit Go.Joins

set_option maxRecDepth 100000

theorem openFrame : OpenC 162 FrameR := by
  intro H enc w spare held fuel cs x h
  obtain ⟨ys, m, hm, _, hl, hlen, hg⟩ := DataW.trod_struct Try.underlying162 h
  have hl' : cs.length = 4 := hl.trans (by kernel_rfl)
  obtain ⟨c0, c1, c2, c3, rfl⟩ : ∃ c0 c1 c2 c3, cs = [c0, c1, c2, c3] := by
    match cs, hl' with
    | [c0, c1, c2, c3], _ => exact ⟨c0, c1, c2, c3, rfl⟩
  have hy : ys.length = 4 := hlen
  obtain ⟨y0, y1, y2, y3, rfl⟩ : ∃ y0 y1 y2 y3, ys = [y0, y1, y2, y3] := by
    match ys, hy with
    | [y0, y1, y2, y3], _ => exact ⟨y0, y1, y2, y3, rfl⟩
  have g0 : DataW.trod enc Try.prog w 0 spare held m 3 (([c0, c1, c2, c3].drop 0).take (Try.prog.cellsOf 3)) = some y0 := hg 0 _ rfl
  rw [show Try.prog.cellsOf 3 = 1 from by kernel_rfl] at g0
  obtain ⟨_, ⟨z0, rfl⟩, a0⟩ := openInt _ _ _ _ _ _ [c0] _ g0
  have g1 : DataW.trod enc Try.prog w 0 spare held m 3 (([c0, c1, c2, c3].drop 1).take (Try.prog.cellsOf 3)) = some y1 := hg 1 _ rfl
  rw [show Try.prog.cellsOf 3 = 1 from by kernel_rfl] at g1
  obtain ⟨_, ⟨z1, rfl⟩, a1⟩ := openInt _ _ _ _ _ _ [c1] _ g1
  have g2 : DataW.trod enc Try.prog w 0 spare held m 3 (([c0, c1, c2, c3].drop 2).take (Try.prog.cellsOf 3)) = some y2 := hg 2 _ rfl
  rw [show Try.prog.cellsOf 3 = 1 from by kernel_rfl] at g2
  obtain ⟨_, ⟨z2, rfl⟩, a2⟩ := openInt _ _ _ _ _ _ [c2] _ g2
  have g3 : DataW.trod enc Try.prog w 0 spare held m 23 (([c0, c1, c2, c3].drop 3).take (Try.prog.cellsOf 23)) = some y3 := hg 3 _ rfl
  rw [show Try.prog.cellsOf 23 = 1 from by kernel_rfl] at g3
  obtain ⟨u3, x3, hu3, q3, a3⟩ := openIntS _ _ _ _ _ _ [c3] _ g3
  obtain rfl : c3 = u3 := by simpa using hu3
  exact ⟨[.int z0, .int z1, .int z2, .row x3], ⟨_, _, _, _, rfl, q3⟩, a0.1, a1.1, a2.1, a3, trivial⟩
theorem openFrameS : OpenS 103 FrameR := open_slice Try.underlying103 (by kernel_rfl) FrameR.len (by omega) openFrame

end Go.Proofs.Ytlgnklpaebgnlaa

namespace Go.Proofs.Ytlgnklpaebgnlaa
open Go.RowKit Go.Joins

set_option maxRecDepth 100000

theorem openThread : OpenC 105 ThreadR := by
  intro H enc w spare held fuel cs x h
  obtain ⟨ys, m, hm, _, hl, hlen, hg⟩ := DataW.trod_struct Try.underlying105 h
  have hl' : cs.length = 5 := hl.trans (by kernel_rfl)
  obtain ⟨c0, c1, c2, c3, c4, rfl⟩ : ∃ c0 c1 c2 c3 c4, cs = [c0, c1, c2, c3, c4] := by
    match cs, hl' with
    | [c0, c1, c2, c3, c4], _ => exact ⟨c0, c1, c2, c3, c4, rfl⟩
  have hy : ys.length = 5 := hlen
  obtain ⟨y0, y1, y2, y3, y4, rfl⟩ : ∃ y0 y1 y2 y3 y4, ys = [y0, y1, y2, y3, y4] := by
    match ys, hy with
    | [y0, y1, y2, y3, y4], _ => exact ⟨y0, y1, y2, y3, y4, rfl⟩
  have g0 : DataW.trod enc Try.prog w 0 spare held m 3 (([c0, c1, c2, c3, c4].drop 0).take (Try.prog.cellsOf 3)) = some y0 := hg 0 _ rfl
  rw [show Try.prog.cellsOf 3 = 1 from by kernel_rfl] at g0
  obtain ⟨_, ⟨z0, rfl⟩, a0⟩ := openInt _ _ _ _ _ _ [c0] _ g0
  have g1 : DataW.trod enc Try.prog w 0 spare held m 3 (([c0, c1, c2, c3, c4].drop 1).take (Try.prog.cellsOf 3)) = some y1 := hg 1 _ rfl
  rw [show Try.prog.cellsOf 3 = 1 from by kernel_rfl] at g1
  obtain ⟨_, ⟨z1, rfl⟩, a1⟩ := openInt _ _ _ _ _ _ [c1] _ g1
  have g2 : DataW.trod enc Try.prog w 0 spare held m 23 (([c0, c1, c2, c3, c4].drop 2).take (Try.prog.cellsOf 23)) = some y2 := hg 2 _ rfl
  rw [show Try.prog.cellsOf 23 = 1 from by kernel_rfl] at g2
  obtain ⟨u2, x2, hu2, q2, a2⟩ := openIntS _ _ _ _ _ _ [c2] _ g2
  obtain rfl : c2 = u2 := by simpa using hu2
  have g3 : DataW.trod enc Try.prog w 0 spare held m 103 (([c0, c1, c2, c3, c4].drop 3).take (Try.prog.cellsOf 103)) = some y3 := hg 3 _ rfl
  rw [show Try.prog.cellsOf 103 = 1 from by kernel_rfl] at g3
  obtain ⟨u3, x3, hu3, q3, a3⟩ := openFrameS _ _ _ _ _ _ [c3] _ g3
  obtain rfl : c3 = u3 := by simpa using hu3
  have g4 : DataW.trod enc Try.prog w 0 spare held m 9 (([c0, c1, c2, c3, c4].drop 4).take (Try.prog.cellsOf 9)) = some y4 := hg 4 _ rfl
  rw [show Try.prog.cellsOf 9 = 1 from by kernel_rfl] at g4
  obtain ⟨_, ⟨b4, rfl⟩, a4⟩ := openString _ _ _ _ _ _ [c4] _ g4
  exact ⟨[.int z0, .int z1, .row x2, .row x3, .str b4], ⟨_, _, _, _, _, rfl, q2, q3⟩, a0.1, a1.1, a2, a3, a4.1, trivial⟩
theorem openThreadS : OpenS 27 ThreadR := open_slice Try.underlying27 (by kernel_rfl) ThreadR.len (by omega) openThread

end Go.Proofs.Ytlgnklpaebgnlaa

namespace Go.Proofs.Ytlgnklpaebgnlaa
open Go.RowKit Go.Joins

set_option maxRecDepth 100000

theorem openMsg : OpenC 108 MsgR := by
  intro H enc w spare held fuel cs x h
  obtain ⟨ys, m, hm, _, hl, hlen, hg⟩ := DataW.trod_struct Try.underlying108 h
  have hl' : cs.length = 9 := hl.trans (by kernel_rfl)
  obtain ⟨c0, c1, c2, c3, c4, c5, c6, c7, c8, rfl⟩ : ∃ c0 c1 c2 c3 c4 c5 c6 c7 c8, cs = [c0, c1, c2, c3, c4, c5, c6, c7, c8] := by
    match cs, hl' with
    | [c0, c1, c2, c3, c4, c5, c6, c7, c8], _ => exact ⟨c0, c1, c2, c3, c4, c5, c6, c7, c8, rfl⟩
  have hy : ys.length = 6 := hlen
  obtain ⟨y0, y1, y2, y3, y4, y5, rfl⟩ : ∃ y0 y1 y2 y3 y4 y5, ys = [y0, y1, y2, y3, y4, y5] := by
    match ys, hy with
    | [y0, y1, y2, y3, y4, y5], _ => exact ⟨y0, y1, y2, y3, y4, y5, rfl⟩
  have g0 : DataW.trod enc Try.prog w 0 spare held m 3 (([c0, c1, c2, c3, c4, c5, c6, c7, c8].drop 0).take (Try.prog.cellsOf 3)) = some y0 := hg 0 _ rfl
  rw [show Try.prog.cellsOf 3 = 1 from by kernel_rfl] at g0
  obtain ⟨_, ⟨z0, rfl⟩, a0⟩ := openInt _ _ _ _ _ _ [c0] _ g0
  have g1 : DataW.trod enc Try.prog w 0 spare held m 3 (([c0, c1, c2, c3, c4, c5, c6, c7, c8].drop 1).take (Try.prog.cellsOf 3)) = some y1 := hg 1 _ rfl
  rw [show Try.prog.cellsOf 3 = 1 from by kernel_rfl] at g1
  obtain ⟨_, ⟨z1, rfl⟩, a1⟩ := openInt _ _ _ _ _ _ [c1] _ g1
  have g2 : DataW.trod enc Try.prog w 0 spare held m 3 (([c0, c1, c2, c3, c4, c5, c6, c7, c8].drop 2).take (Try.prog.cellsOf 3)) = some y2 := hg 2 _ rfl
  rw [show Try.prog.cellsOf 3 = 1 from by kernel_rfl] at g2
  obtain ⟨_, ⟨z2, rfl⟩, a2⟩ := openInt _ _ _ _ _ _ [c2] _ g2
  have g3 : DataW.trod enc Try.prog w 0 spare held m 3 (([c0, c1, c2, c3, c4, c5, c6, c7, c8].drop 3).take (Try.prog.cellsOf 3)) = some y3 := hg 3 _ rfl
  rw [show Try.prog.cellsOf 3 = 1 from by kernel_rfl] at g3
  obtain ⟨_, ⟨z3, rfl⟩, a3⟩ := openInt _ _ _ _ _ _ [c3] _ g3
  have g4 : DataW.trod enc Try.prog w 0 spare held m 3 (([c0, c1, c2, c3, c4, c5, c6, c7, c8].drop 4).take (Try.prog.cellsOf 3)) = some y4 := hg 4 _ rfl
  rw [show Try.prog.cellsOf 3 = 1 from by kernel_rfl] at g4
  obtain ⟨_, ⟨z4, rfl⟩, a4⟩ := openInt _ _ _ _ _ _ [c4] _ g4
  have g5 : DataW.trod enc Try.prog w 0 spare held m 101 (([c0, c1, c2, c3, c4, c5, c6, c7, c8].drop 5).take (Try.prog.cellsOf 101)) = some y5 := hg 5 _ rfl
  rw [show Try.prog.cellsOf 101 = 4 from by kernel_rfl] at g5
  obtain ⟨_, ⟨z5, z6, z7, x8, rfl, q8⟩, a5⟩ := openCell _ _ _ _ _ _ [c5, c6, c7, c8] _ g5
  exact ⟨[.int z0, .int z1, .int z2, .int z3, .int z4, .int z5, .int z6, .int z7, .row x8], ⟨_, _, _, _, _, _, _, _, _, rfl, q8⟩, a0.1, a1.1, a2.1, a3.1, a4.1, a5.1, a5.2.1, a5.2.2.1, a5.2.2.2.1, trivial⟩
theorem openMsgS : OpenS 28 MsgR := open_slice Try.underlying28 (by kernel_rfl) MsgR.len (by omega) openMsg

end Go.Proofs.Ytlgnklpaebgnlaa

namespace Go.Proofs.Ytlgnklpaebgnlaa
open Go.RowKit Go.Joins

set_option maxRecDepth 100000

theorem openMachine : OpenC 30 MachineR := by
  intro H enc w spare held fuel cs x h
  obtain ⟨ys, m, hm, _, hl, hlen, hg⟩ := DataW.trod_struct Try.underlying30 h
  have hl' : cs.length = 7 := hl.trans (by kernel_rfl)
  obtain ⟨c0, c1, c2, c3, c4, c5, c6, rfl⟩ : ∃ c0 c1 c2 c3 c4 c5 c6, cs = [c0, c1, c2, c3, c4, c5, c6] := by
    match cs, hl' with
    | [c0, c1, c2, c3, c4, c5, c6], _ => exact ⟨c0, c1, c2, c3, c4, c5, c6, rfl⟩
  have hy : ys.length = 6 := hlen
  obtain ⟨y0, y1, y2, y3, y4, y5, rfl⟩ : ∃ y0 y1 y2 y3 y4 y5, ys = [y0, y1, y2, y3, y4, y5] := by
    match ys, hy with
    | [y0, y1, y2, y3, y4, y5], _ => exact ⟨y0, y1, y2, y3, y4, y5, rfl⟩
  have g0 : DataW.trod enc Try.prog w 0 spare held m 25 (([c0, c1, c2, c3, c4, c5, c6].drop 0).take (Try.prog.cellsOf 25)) = some y0 := hg 0 _ rfl
  rw [show Try.prog.cellsOf 25 = 2 from by kernel_rfl] at g0
  obtain ⟨_, ⟨x0, x1, rfl, q0, q1⟩, a0⟩ := openTable _ _ _ _ _ _ [c0, c1] _ g0
  have g1 : DataW.trod enc Try.prog w 0 spare held m 26 (([c0, c1, c2, c3, c4, c5, c6].drop 2).take (Try.prog.cellsOf 26)) = some y1 := hg 1 _ rfl
  rw [show Try.prog.cellsOf 26 = 1 from by kernel_rfl] at g1
  obtain ⟨u2, x2, hu2, q2, a2⟩ := openCellS _ _ _ _ _ _ [c2] _ g1
  obtain rfl : c2 = u2 := by simpa using hu2
  have g2 : DataW.trod enc Try.prog w 0 spare held m 27 (([c0, c1, c2, c3, c4, c5, c6].drop 3).take (Try.prog.cellsOf 27)) = some y2 := hg 2 _ rfl
  rw [show Try.prog.cellsOf 27 = 1 from by kernel_rfl] at g2
  obtain ⟨u3, x3, hu3, q3, a3⟩ := openThreadS _ _ _ _ _ _ [c3] _ g2
  obtain rfl : c3 = u3 := by simpa using hu3
  have g3 : DataW.trod enc Try.prog w 0 spare held m 23 (([c0, c1, c2, c3, c4, c5, c6].drop 4).take (Try.prog.cellsOf 23)) = some y3 := hg 3 _ rfl
  rw [show Try.prog.cellsOf 23 = 1 from by kernel_rfl] at g3
  obtain ⟨u4, x4, hu4, q4, a4⟩ := openIntS _ _ _ _ _ _ [c4] _ g3
  obtain rfl : c4 = u4 := by simpa using hu4
  have g4 : DataW.trod enc Try.prog w 0 spare held m 23 (([c0, c1, c2, c3, c4, c5, c6].drop 5).take (Try.prog.cellsOf 23)) = some y4 := hg 4 _ rfl
  rw [show Try.prog.cellsOf 23 = 1 from by kernel_rfl] at g4
  obtain ⟨u5, x5, hu5, q5, a5⟩ := openIntS _ _ _ _ _ _ [c5] _ g4
  obtain rfl : c5 = u5 := by simpa using hu5
  have g5 : DataW.trod enc Try.prog w 0 spare held m 28 (([c0, c1, c2, c3, c4, c5, c6].drop 6).take (Try.prog.cellsOf 28)) = some y5 := hg 5 _ rfl
  rw [show Try.prog.cellsOf 28 = 1 from by kernel_rfl] at g5
  obtain ⟨u6, x6, hu6, q6, a6⟩ := openMsgS _ _ _ _ _ _ [c6] _ g5
  obtain rfl : c6 = u6 := by simpa using hu6
  exact ⟨[.row x0, .row x1, .row x2, .row x3, .row x4, .row x5, .row x6], ⟨_, _, _, _, _, _, _, rfl, q0, q1, q2, q3, q4, q5, q6⟩, a0.1, a0.2.1, a2, a3, a4, a5, a6, trivial⟩

end Go.Proofs.Ytlgnklpaebgnlaa
