/-
  Chapter 11: messages that are structs of numbers as mathematics (by program, wip/gen/genletm.py).
-/
import Derived.Test.YthjjdelpdiipdaaEntM
import Derived.Test.YthjjdelpdiipdaaLet
import Derived.Test.YthjjdelpdiipdaaKA
namespace Go.Proofs.Ythjjdelpdiipdaa
set_option maxRecDepth 100000
open Go.RowKit

-- the kinds' structs: valid or not
def AskM.op (a : AskM) : OpM := ⟨a.kd, a.oa, a.ob, a.oc, a.od⟩
def askOkB (a : AskM) : Bool := askB a.cl && (inB a.sq 1 2000 && opB a.op)
def ackOkB (a : AckM) : Bool := askB a.cl && (inB a.sq 1 2000 && (inB a.last a.sq 2000 && (if a.sq < a.last then decide (a.ix = 0) else inB a.ix 1 2000)))
def readOkB (r : ReadM) : Bool := askB r.cl && (inB r.sq 1 2000 && (inB r.key 0 9 && inB r.least 0 2000))
def valueOkB (v : ValueM) : Bool := askB v.cl && (inB v.sq 1 2000 && (inB v.ix 0 2000 && (inB v.has 0 1 && (inB v.val 0 999 && (decide (v.has = 1) || decide (v.val = 0))))))
def schedB (x : Int) : Bool := decide (x = 2) || decide (x = 3)
-- messages
def ask0 : AskM := ⟨0, 0, 0, 0, 0, 0, 0⟩
def ack0 : AckM := ⟨0, 0, 0, 0⟩
def read0 : ReadM := ⟨0, 0, 0, 0⟩
def value0 : ValueM := ⟨0, 0, 0, 0, 0⟩
def askNs (a : AskM) : List Int := [a.cl, a.sq] ++ opNs a.op
def ackNs (a : AckM) : List Int := [a.cl, a.sq, a.ix, a.last]
def readNs (r : ReadM) : List Int := [r.cl, r.sq, r.key, r.least]
def valueNs (v : ValueM) : List Int := [v.cl, v.sq, v.ix, v.has, v.val]
def askRowM (a : AskM) : List Int := if askOkB a = true then 1 :: askNs a else []
def ackRowM (a : AckM) : List Int := if ackOkB a = true then 2 :: ackNs a else []
def fetchRowM (x : Int) : List Int := if inB x 1 2001 = true then [3, x] else []
def trimRowM (x : Int) : List Int := if inB x 1 2000 = true then [5, x] else []
def readRowM (r : ReadM) : List Int := if readOkB r = true then 6 :: readNs r else []
def valueRowM (v : ValueM) : List Int := if valueOkB v = true then 7 :: valueNs v else []
def pollRowM (x : Int) : List Int := if schedB x = true then [8, x] else []
theorem schedB_iff (x : Int) : schedB x = true ↔ 2 ≤ x ∧ x ≤ 3 := by
  unfold schedB
  simp only [Bool.or_eq_true, decide_eq_true_eq]
  omega
theorem askRowM_sz (a : AskM) : (askRowM a).length ≤ 1048577 := by unfold askRowM; split <;> simp [askNs, opNs]
theorem ackRowM_sz (a : AckM) : (ackRowM a).length ≤ 1048577 := by unfold ackRowM; split <;> simp [ackNs]
theorem fetchRowM_sz (x : Int) : (fetchRowM x).length ≤ 1048577 := by unfold fetchRowM; split <;> simp
theorem trimRowM_sz (x : Int) : (trimRowM x).length ≤ 1048577 := by unfold trimRowM; split <;> simp
theorem readRowM_sz (r : ReadM) : (readRowM r).length ≤ 1048577 := by unfold readRowM; split <;> simp [readNs]
theorem valueRowM_sz (v : ValueM) : (valueRowM v).length ≤ 1048577 := by unfold valueRowM; split <;> simp [valueNs]
theorem pollRowM_sz (x : Int) : (pollRowM x).length ≤ 1048577 := by unfold pollRowM; split <;> simp
def kindM (d : List Int) : Int := if rowOk d = true ∧ 0 < d.length ∧ inB (d.getD 0 0) 1 9 = true then d.getD 0 0 else 0

-- rows to messages
def ofAsk (d : List Int) : AskM := ⟨d.getD 1 0, d.getD 2 0, d.getD 3 0, d.getD 4 0, d.getD 5 0, d.getD 6 0, d.getD 7 0⟩
def ofAck (d : List Int) : AckM := ⟨d.getD 1 0, d.getD 2 0, d.getD 3 0, d.getD 4 0⟩
def ofRead (d : List Int) : ReadM := ⟨d.getD 1 0, d.getD 2 0, d.getD 3 0, d.getD 4 0⟩
def ofValue (d : List Int) : ValueM := ⟨d.getD 1 0, d.getD 2 0, d.getD 3 0, d.getD 4 0, d.getD 5 0⟩
def rowAskM (d : List Int) : AskM × Bool := if d.length = 8 ∧ d.getD 0 0 = 1 ∧ askOkB (ofAsk d) = true then (ofAsk d, true) else (ask0, false)
def rowAckM (d : List Int) : AckM × Bool := if d.length = 5 ∧ d.getD 0 0 = 2 ∧ ackOkB (ofAck d) = true then (ofAck d, true) else (ack0, false)
def rowReadM (d : List Int) : ReadM × Bool := if d.length = 5 ∧ d.getD 0 0 = 6 ∧ readOkB (ofRead d) = true then (ofRead d, true) else (read0, false)
def rowValueM (d : List Int) : ValueM × Bool := if d.length = 6 ∧ d.getD 0 0 = 7 ∧ valueOkB (ofValue d) = true then (ofValue d, true) else (value0, false)
def rowOneM (k lo hi : Int) (d : List Int) : Int × Bool := if d.length = 2 ∧ d.getD 0 0 = k ∧ inB (d.getD 1 0) lo hi = true then (d.getD 1 0, true) else (0, false)
def rowFetchM (d : List Int) : Int × Bool := rowOneM 3 1 2001 d
def rowTrimM (d : List Int) : Int × Bool := rowOneM 5 1 2000 d
def rowPollM (d : List Int) : Int × Bool := rowOneM 8 2 3 d
theorem askOk_op {a : AskM} (h : askOkB a = true) : opB a.op = true := by
  unfold askOkB at h
  simp only [Bool.and_eq_true] at h
  exact h.2.2

end Go.Proofs.Ythjjdelpdiipdaa
