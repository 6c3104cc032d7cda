/- Read off the code by the clean reading. -/
import Derived.Test.YthpoeegoankpoaaGreatClnMc
import Derived.Test.YthpoeegoankpoaaGreatClnQd
import Derived.Test.YthpoeegoankpoaaGreatClnQc
set_option linter.unusedVariables false
set_option linter.unusedSimpArgs false
set_option linter.deprecated false
set_option maxRecDepth 100000
namespace Go.Proofs.YthpoeegoankpoaaGreat
open Go.ChangeShapes Go.WideShapes Go.ChangeAt Go.RowKit Go.Cln
namespace ob
set_option linter.unusedVariables false
noncomputable section
noncomputable def ruleQ (r : RV) : Bool := rightE r.A r.B && decide (r.C ≤ r.D) && decide (r.D ≤ 32) && decide (r.T ≤ 8) && (r.E || (r.G == 0)) && (r.J || (r.M == 0)) && (r.K || (r.O == 0)) && (r.L || (r.Q == 0)) && ((!r.I) || ((!r.J) && (!r.K) && (!r.L) && (r.T == 0)))
def rvOk (r : RV) : Prop := pvOk r.A r.B
def rulesOk (x : MX) (P n : Nat) : Prop := n ≤ x.RN P ∧ n ≤ 1000 ∧ ∀ i, i < n → rvOk (x.rv P i)
noncomputable def ruE (x : MX) (P i : Nat) : Bool := ruleQ (x.rv P (ixR i))
noncomputable def chkE (x : MX) (P n : Nat) : Int := if allB (ruE x P) n then (if decide (nI n > 16) then 3 else 0) else 2
end
end ob
end Go.Proofs.YthpoeegoankpoaaGreat
namespace Go.Proofs.YthpoeegoankpoaaGreat
open Go.ChangeShapes Go.WideShapes Go.ChangeAt Go.RowKit Go.Cln
namespace ob
set_option linter.unusedVariables false
noncomputable section
def B27 (r : RV) : Nat → Bool := fun i => match i with
  | 0 => rightE r.A r.B
  | 1 => decide (r.C ≤ r.D)
  | 2 => decide (r.D ≤ 32)
  | 3 => decide (r.T ≤ 8)
  | 4 => r.E
  | 5 => r.G == 0
  | 6 => r.J
  | 7 => r.M == 0
  | 8 => r.K
  | 9 => r.O == 0
  | 10 => r.L
  | 11 => r.Q == 0
  | 12 => r.I
  | _ => r.T == 0
def e27B : BE := (.an (.an (.an (.an (.an (.an (.an (.an (.a 0) (.a 1)) (.a 2)) (.a 3)) (.or (.a 4) (.a 5))) (.or (.a 6) (.a 7))) (.or (.a 8) (.a 9))) (.or (.a 10) (.a 11))) (.or (.no (.a 12)) (.an (.an (.an (.no (.a 6)) (.no (.a 8))) (.no (.a 10))) (.a 13))))
def T27 : DT := .node 6 (.node 0 (.node 1 (.node 2 (.node 3 (.node 4 (.node 8 (.node 10 (.node 12 (.leaf 26) (.leaf 0)) (.node 11 (.node 12 (.leaf 25) (.leaf 23)) (.leaf 24))) (.node 9 (.node 10 (.node 12 (.leaf 22) (.leaf 17)) (.node 11 (.node 12 (.leaf 21) (.leaf 19)) (.leaf 20))) (.leaf 18))) (.node 5 (.node 8 (.node 10 (.node 12 (.leaf 16) (.leaf 5)) (.node 11 (.node 12 (.leaf 15) (.leaf 13)) (.leaf 14))) (.node 9 (.node 10 (.node 12 (.leaf 12) (.leaf 7)) (.node 11 (.node 12 (.leaf 11) (.leaf 9)) (.leaf 10))) (.leaf 8))) (.leaf 6))) (.leaf 4)) (.leaf 3)) (.leaf 2)) (.leaf 1)) (.node 8 (.node 0 (.node 1 (.node 2 (.node 3 (.node 4 (.node 7 (.node 10 (.node 12 (.leaf 43) (.leaf 38)) (.node 11 (.node 12 (.leaf 42) (.leaf 40)) (.leaf 41))) (.leaf 39)) (.node 5 (.node 7 (.node 10 (.node 12 (.leaf 37) (.leaf 32)) (.node 11 (.node 12 (.leaf 36) (.leaf 34)) (.leaf 35))) (.leaf 33)) (.leaf 31))) (.leaf 30)) (.leaf 29)) (.leaf 28)) (.leaf 27)) (.node 10 (.node 0 (.node 1 (.node 2 (.node 3 (.node 4 (.node 7 (.node 9 (.node 12 (.leaf 56) (.leaf 54)) (.leaf 55)) (.leaf 53)) (.node 5 (.node 7 (.node 9 (.node 12 (.leaf 52) (.leaf 50)) (.leaf 51)) (.leaf 49)) (.leaf 48))) (.leaf 47)) (.leaf 46)) (.leaf 45)) (.leaf 44)) (.node 0 (.node 1 (.node 2 (.node 3 (.node 4 (.node 7 (.node 9 (.node 11 (.node 12 (.node 13 (.leaf 71) (.leaf 71)) (.leaf 69)) (.leaf 70)) (.leaf 68)) (.leaf 67)) (.node 5 (.node 7 (.node 9 (.node 11 (.node 12 (.node 13 (.leaf 66) (.leaf 66)) (.leaf 64)) (.leaf 65)) (.leaf 63)) (.leaf 62)) (.leaf 61))) (.leaf 60)) (.leaf 59)) (.leaf 58)) (.leaf 57))))
def A27 (x : MX) (r : RV) : Nat → Prop := fun _ => x.F = x.F ∧ pvOk r.A r.B
def L27 : List WayT := [⟨70, 30903677756855805004337043799679, [(6, 4), (0, 2), (0, 1), (1, 1), (2, 1), (3, 1), (4, 1), (6, 1), (8, 1), (10, 1), (12, 3)], .lit true⟩,
⟨52, 1062884, [(6, 4), (0, 2), (0, 0)], .lit false⟩,
⟨52, 775372421, [(6, 4), (0, 2), (0, 1), (1, 0)], .lit false⟩,
⟨52, 63150071150, [(6, 4), (0, 2), (0, 1), (1, 1), (2, 0)], .lit false⟩,
⟨52, 5115500668199, [(6, 4), (0, 2), (0, 1), (1, 1), (2, 1), (3, 0)], .lit false⟩,
⟨70, 30903677756855855104512520164269, [(6, 4), (0, 2), (0, 1), (1, 1), (2, 1), (3, 1), (4, 0), (5, 1), (6, 1), (8, 1), (10, 1), (12, 3)], .lit true⟩,
⟨56, 100202924587569050, [(6, 4), (0, 2), (0, 1), (1, 1), (2, 1), (3, 1), (4, 0), (5, 0)], .lit false⟩,
⟨70, 30903697166690337143489920248779, [(6, 4), (0, 2), (0, 1), (1, 1), (2, 1), (3, 1), (4, 0), (5, 1), (6, 1), (8, 0), (9, 1), (10, 1), (12, 3)], .lit true⟩,
⟨64, 38819670365101051961730452, [(6, 4), (0, 2), (0, 1), (1, 1), (2, 1), (3, 1), (4, 0), (5, 1), (6, 1), (8, 0), (9, 0)], .lit false⟩,
⟨70, 31285740938800310335655783659109, [(6, 4), (0, 2), (0, 1), (1, 1), (2, 1), (3, 1), (4, 0), (5, 1), (6, 1), (8, 0), (9, 1), (10, 0), (11, 1), (12, 3)], .lit true⟩,
⟨68, 764106980644643805363791754389, [(6, 4), (0, 2), (0, 1), (1, 1), (2, 1), (3, 1), (4, 0), (5, 1), (6, 1), (8, 0), (9, 1), (10, 0), (11, 0)], .lit false⟩,
⟨70, 62188895321432922697576425462638, [(6, 4), (0, 2), (0, 1), (1, 1), (2, 1), (3, 1), (4, 0), (5, 1), (6, 1), (8, 0), (9, 1), (10, 0), (11, 1), (12, 4)], .lit false⟩,
⟨70, 61806851549322949505410562052308, [(6, 4), (0, 2), (0, 1), (1, 1), (2, 1), (3, 1), (4, 0), (5, 1), (6, 1), (8, 0), (9, 1), (10, 1), (12, 4)], .lit false⟩,
⟨70, 31285721528965828296678383574599, [(6, 4), (0, 2), (0, 1), (1, 1), (2, 1), (3, 1), (4, 0), (5, 1), (6, 1), (8, 1), (10, 0), (11, 1), (12, 3)], .lit true⟩,
⟨68, 764087570810161766386391669879, [(6, 4), (0, 2), (0, 1), (1, 1), (2, 1), (3, 1), (4, 0), (5, 1), (6, 1), (8, 1), (10, 0), (11, 0)], .lit false⟩,
⟨70, 62188875911598440658599025378128, [(6, 4), (0, 2), (0, 1), (1, 1), (2, 1), (3, 1), (4, 0), (5, 1), (6, 1), (8, 1), (10, 0), (11, 1), (12, 4)], .lit false⟩,
⟨70, 61806832139488467466433161967798, [(6, 4), (0, 2), (0, 1), (1, 1), (2, 1), (3, 1), (4, 0), (5, 1), (6, 1), (8, 1), (10, 1), (12, 4)], .lit false⟩,
⟨70, 30903697166690287043314443884189, [(6, 4), (0, 2), (0, 1), (1, 1), (2, 1), (3, 1), (4, 1), (6, 1), (8, 0), (9, 1), (10, 1), (12, 3)], .lit true⟩,
⟨64, 38819670315000876485365862, [(6, 4), (0, 2), (0, 1), (1, 1), (2, 1), (3, 1), (4, 1), (6, 1), (8, 0), (9, 0)], .lit false⟩,
⟨70, 31285740938800260235480307294519, [(6, 4), (0, 2), (0, 1), (1, 1), (2, 1), (3, 1), (4, 1), (6, 1), (8, 0), (9, 1), (10, 0), (11, 1), (12, 3)], .lit true⟩,
⟨68, 764106980644593705188315389799, [(6, 4), (0, 2), (0, 1), (1, 1), (2, 1), (3, 1), (4, 1), (6, 1), (8, 0), (9, 1), (10, 0), (11, 0)], .lit false⟩,
⟨70, 62188895321432872597400949098048, [(6, 4), (0, 2), (0, 1), (1, 1), (2, 1), (3, 1), (4, 1), (6, 1), (8, 0), (9, 1), (10, 0), (11, 1), (12, 4)], .lit false⟩,
⟨70, 61806851549322899405235085687718, [(6, 4), (0, 2), (0, 1), (1, 1), (2, 1), (3, 1), (4, 1), (6, 1), (8, 0), (9, 1), (10, 1), (12, 4)], .lit false⟩,
⟨70, 31285721528965778196502907210009, [(6, 4), (0, 2), (0, 1), (1, 1), (2, 1), (3, 1), (4, 1), (6, 1), (8, 1), (10, 0), (11, 1), (12, 3)], .lit true⟩,
⟨68, 764087570810111666210915305289, [(6, 4), (0, 2), (0, 1), (1, 1), (2, 1), (3, 1), (4, 1), (6, 1), (8, 1), (10, 0), (11, 0)], .lit false⟩,
⟨70, 62188875911598390558423549013538, [(6, 4), (0, 2), (0, 1), (1, 1), (2, 1), (3, 1), (4, 1), (6, 1), (8, 1), (10, 0), (11, 1), (12, 4)], .lit false⟩,
⟨70, 61806832139488417366257685603208, [(6, 4), (0, 2), (0, 1), (1, 1), (2, 1), (3, 1), (4, 1), (6, 1), (8, 1), (10, 1), (12, 4)], .lit false⟩,
⟨52, 1063045, [(6, 3), (8, 4), (0, 2), (0, 0)], .lit false⟩,
⟨52, 775372582, [(6, 3), (8, 4), (0, 2), (0, 1), (1, 0)], .lit false⟩,
⟨52, 63150071311, [(6, 3), (8, 4), (0, 2), (0, 1), (1, 1), (2, 0)], .lit false⟩,
⟨52, 5115500668360, [(6, 3), (8, 4), (0, 2), (0, 1), (1, 1), (2, 1), (3, 0)], .lit false⟩,
⟨56, 100202924587569211, [(6, 3), (8, 4), (0, 2), (0, 1), (1, 1), (2, 1), (3, 1), (4, 0), (5, 0)], .lit false⟩,
⟨70, 30903677757841976858413804389400, [(6, 3), (8, 4), (0, 2), (0, 1), (1, 1), (2, 1), (3, 1), (4, 0), (5, 1), (6, 0), (7, 1), (8, 1), (10, 1), (12, 3)], .lit true⟩,
⟨60, 1972293679182057019444, [(6, 3), (8, 4), (0, 2), (0, 1), (1, 1), (2, 1), (3, 1), (4, 0), (5, 1), (6, 0), (7, 0)], .lit false⟩,
⟨70, 31285721529951950050579667799730, [(6, 3), (8, 4), (0, 2), (0, 1), (1, 1), (2, 1), (3, 1), (4, 0), (5, 1), (6, 0), (7, 1), (8, 1), (10, 0), (11, 1), (12, 3)], .lit true⟩,
⟨68, 764087571796283520287675895010, [(6, 3), (8, 4), (0, 2), (0, 1), (1, 1), (2, 1), (3, 1), (4, 0), (5, 1), (6, 0), (7, 1), (8, 1), (10, 0), (11, 0)], .lit false⟩,
⟨70, 62188875912584562412500309603259, [(6, 3), (8, 4), (0, 2), (0, 1), (1, 1), (2, 1), (3, 1), (4, 0), (5, 1), (6, 0), (7, 1), (8, 1), (10, 0), (11, 1), (12, 4)], .lit false⟩,
⟨70, 61806832140474589220334446192929, [(6, 3), (8, 4), (0, 2), (0, 1), (1, 1), (2, 1), (3, 1), (4, 0), (5, 1), (6, 0), (7, 1), (8, 1), (10, 1), (12, 4)], .lit false⟩,
⟨70, 30903677757841926758238328024810, [(6, 3), (8, 4), (0, 2), (0, 1), (1, 1), (2, 1), (3, 1), (4, 1), (6, 0), (7, 1), (8, 1), (10, 1), (12, 3)], .lit true⟩,
⟨60, 1972243579006580654854, [(6, 3), (8, 4), (0, 2), (0, 1), (1, 1), (2, 1), (3, 1), (4, 1), (6, 0), (7, 0)], .lit false⟩,
⟨70, 31285721529951899950404191435140, [(6, 3), (8, 4), (0, 2), (0, 1), (1, 1), (2, 1), (3, 1), (4, 1), (6, 0), (7, 1), (8, 1), (10, 0), (11, 1), (12, 3)], .lit true⟩,
⟨68, 764087571796233420112199530420, [(6, 3), (8, 4), (0, 2), (0, 1), (1, 1), (2, 1), (3, 1), (4, 1), (6, 0), (7, 1), (8, 1), (10, 0), (11, 0)], .lit false⟩,
⟨70, 62188875912584512312324833238669, [(6, 3), (8, 4), (0, 2), (0, 1), (1, 1), (2, 1), (3, 1), (4, 1), (6, 0), (7, 1), (8, 1), (10, 0), (11, 1), (12, 4)], .lit false⟩,
⟨70, 61806832140474539120158969828339, [(6, 3), (8, 4), (0, 2), (0, 1), (1, 1), (2, 1), (3, 1), (4, 1), (6, 0), (7, 1), (8, 1), (10, 1), (12, 4)], .lit false⟩,
⟨52, 1076086, [(6, 3), (8, 3), (10, 4), (0, 2), (0, 0)], .lit false⟩,
⟨52, 775385623, [(6, 3), (8, 3), (10, 4), (0, 2), (0, 1), (1, 0)], .lit false⟩,
⟨52, 63150084352, [(6, 3), (8, 3), (10, 4), (0, 2), (0, 1), (1, 1), (2, 0)], .lit false⟩,
⟨52, 5115500681401, [(6, 3), (8, 3), (10, 4), (0, 2), (0, 1), (1, 1), (2, 1), (3, 0)], .lit false⟩,
⟨56, 100202924587582252, [(6, 3), (8, 3), (10, 4), (0, 2), (0, 1), (1, 1), (2, 1), (3, 1), (4, 0), (5, 0)], .lit false⟩,
⟨60, 1972293679182057032485, [(6, 3), (8, 3), (10, 4), (0, 2), (0, 1), (1, 1), (2, 1), (3, 1), (4, 0), (5, 1), (6, 0), (7, 0)], .lit false⟩,
⟨70, 30903697167676458897391204486951, [(6, 3), (8, 3), (10, 4), (0, 2), (0, 1), (1, 1), (2, 1), (3, 1), (4, 0), (5, 1), (6, 0), (7, 1), (8, 0), (9, 1), (10, 1), (12, 3)], .lit true⟩,
⟨64, 38820656486854953245968624, [(6, 3), (8, 3), (10, 4), (0, 2), (0, 1), (1, 1), (2, 1), (3, 1), (4, 0), (5, 1), (6, 0), (7, 1), (8, 0), (9, 0)], .lit false⟩,
⟨70, 61806851550309071259311846290480, [(6, 3), (8, 3), (10, 4), (0, 2), (0, 1), (1, 1), (2, 1), (3, 1), (4, 0), (5, 1), (6, 0), (7, 1), (8, 0), (9, 1), (10, 1), (12, 4)], .lit false⟩,
⟨60, 1972243579006580667895, [(6, 3), (8, 3), (10, 4), (0, 2), (0, 1), (1, 1), (2, 1), (3, 1), (4, 1), (6, 0), (7, 0)], .lit false⟩,
⟨70, 30903697167676408797215728122361, [(6, 3), (8, 3), (10, 4), (0, 2), (0, 1), (1, 1), (2, 1), (3, 1), (4, 1), (6, 0), (7, 1), (8, 0), (9, 1), (10, 1), (12, 3)], .lit true⟩,
⟨64, 38820656436754777769604034, [(6, 3), (8, 3), (10, 4), (0, 2), (0, 1), (1, 1), (2, 1), (3, 1), (4, 1), (6, 0), (7, 1), (8, 0), (9, 0)], .lit false⟩,
⟨70, 61806851550309021159136369925890, [(6, 3), (8, 3), (10, 4), (0, 2), (0, 1), (1, 1), (2, 1), (3, 1), (4, 1), (6, 0), (7, 1), (8, 0), (9, 1), (10, 1), (12, 4)], .lit false⟩,
⟨52, 1069525, [(6, 3), (8, 3), (10, 3), (0, 2), (0, 0)], .lit false⟩,
⟨52, 775379062, [(6, 3), (8, 3), (10, 3), (0, 2), (0, 1), (1, 0)], .lit false⟩,
⟨52, 63150077791, [(6, 3), (8, 3), (10, 3), (0, 2), (0, 1), (1, 1), (2, 0)], .lit false⟩,
⟨52, 5115500674840, [(6, 3), (8, 3), (10, 3), (0, 2), (0, 1), (1, 1), (2, 1), (3, 0)], .lit false⟩,
⟨56, 100202924587575691, [(6, 3), (8, 3), (10, 3), (0, 2), (0, 1), (1, 1), (2, 1), (3, 1), (4, 0), (5, 0)], .lit false⟩,
⟨60, 1972293679182057025924, [(6, 3), (8, 3), (10, 3), (0, 2), (0, 1), (1, 1), (2, 1), (3, 1), (4, 0), (5, 1), (6, 0), (7, 0)], .lit false⟩,
⟨64, 38820656486854953245962063, [(6, 3), (8, 3), (10, 3), (0, 2), (0, 1), (1, 1), (2, 1), (3, 1), (4, 0), (5, 1), (6, 0), (7, 1), (8, 0), (9, 0)], .lit false⟩,
⟨70, 31285740939786432089557067890720, [(6, 3), (8, 3), (10, 3), (0, 2), (0, 1), (1, 1), (2, 1), (3, 1), (4, 0), (5, 1), (6, 0), (7, 1), (8, 0), (9, 1), (10, 0), (11, 1), (12, 3)], .lit true⟩,
⟨68, 764106981630765559265075986000, [(6, 3), (8, 3), (10, 3), (0, 2), (0, 1), (1, 1), (2, 1), (3, 1), (4, 0), (5, 1), (6, 0), (7, 1), (8, 0), (9, 1), (10, 0), (11, 0)], .lit false⟩,
⟨70, 62188895322419044451477709694249, [(6, 3), (8, 3), (10, 3), (0, 2), (0, 1), (1, 1), (2, 1), (3, 1), (4, 0), (5, 1), (6, 0), (7, 1), (8, 0), (9, 1), (10, 0), (11, 1), (12, 4)], .a 13⟩,
⟨60, 1972243579006580661334, [(6, 3), (8, 3), (10, 3), (0, 2), (0, 1), (1, 1), (2, 1), (3, 1), (4, 1), (6, 0), (7, 0)], .lit false⟩,
⟨64, 38820656436754777769597473, [(6, 3), (8, 3), (10, 3), (0, 2), (0, 1), (1, 1), (2, 1), (3, 1), (4, 1), (6, 0), (7, 1), (8, 0), (9, 0)], .lit false⟩,
⟨70, 31285740939786381989381591526130, [(6, 3), (8, 3), (10, 3), (0, 2), (0, 1), (1, 1), (2, 1), (3, 1), (4, 1), (6, 0), (7, 1), (8, 0), (9, 1), (10, 0), (11, 1), (12, 3)], .lit true⟩,
⟨68, 764106981630715459089599621410, [(6, 3), (8, 3), (10, 3), (0, 2), (0, 1), (1, 1), (2, 1), (3, 1), (4, 1), (6, 0), (7, 1), (8, 0), (9, 1), (10, 0), (11, 0)], .lit false⟩,
⟨70, 62188895322418994351302233329659, [(6, 3), (8, 3), (10, 3), (0, 2), (0, 1), (1, 1), (2, 1), (3, 1), (4, 1), (6, 0), (7, 1), (8, 0), (9, 1), (10, 0), (11, 1), (12, 4)], .a 13⟩]
theorem ws27 (x : MX) (r : RV) : WaysOk Tryz.prog (KB2 x) x.F 27 [r.v] (B27 r) (A27 x r) L27 := by
  unfold L27
  refine ⟨?_, ⟨?_, ⟨?_, ⟨?_, ⟨?_, ⟨?_, ⟨?_, ⟨?_, ⟨?_, ⟨?_, ⟨?_, ⟨?_, ⟨?_, ⟨?_, ⟨?_, ⟨?_, ⟨?_, ⟨?_, ⟨?_, ⟨?_, ⟨?_, ⟨?_, ⟨?_, ⟨?_, ⟨?_, ⟨?_, ⟨?_, ⟨?_, ⟨?_, ⟨?_, ⟨?_, ⟨?_, ⟨?_, ⟨?_, ⟨?_, ⟨?_, ⟨?_, ⟨?_, ⟨?_, ⟨?_, ⟨?_, ⟨?_, ⟨?_, ⟨?_, ⟨?_, ⟨?_, ⟨?_, ⟨?_, ⟨?_, ⟨?_, ⟨?_, ⟨?_, ⟨?_, ⟨?_, ⟨?_, ⟨?_, ⟨?_, ⟨?_, ⟨?_, ⟨?_, ⟨?_, ⟨?_, ⟨?_, ⟨?_, ⟨?_, ⟨?_, ⟨?_, ⟨?_, ⟨?_, ⟨?_, ⟨?_, ⟨?_, trivial⟩⟩⟩⟩⟩⟩⟩⟩⟩⟩⟩⟩⟩⟩⟩⟩⟩⟩⟩⟩⟩⟩⟩⟩⟩⟩⟩⟩⟩⟩⟩⟩⟩⟩⟩⟩⟩⟩⟩⟩⟩⟩⟩⟩⟩⟩⟩⟩⟩⟩⟩⟩⟩⟩⟩⟩⟩⟩⟩⟩⟩⟩⟩⟩⟩⟩⟩⟩⟩⟩⟩⟩
  all_goals unfold WayOk; kernel_rfl
theorem rd27 {x : MX} {r : RV} (hR : rvOk r) : Rd Tryz.prog x.F 27 [r.v] (.bool (ruleQ r)) := by
  rw [show ruleQ r = e27B.ev (B27 r) from rfl]
  exact Rd.tree pg (KB2_ok x) (ws27 x r) (fun _ => ⟨rfl, hR⟩) T27 (by decide +kernel)
end
end ob
end Go.Proofs.YthpoeegoankpoaaGreat
namespace Go.Proofs.YthpoeegoankpoaaGreat
open Go.ChangeShapes Go.WideShapes Go.ChangeAt Go.RowKit Go.Cln
namespace ob
set_option linter.unusedVariables false
noncomputable section
def B19 (r : RV) : Nat → Bool := fun i => match i with
  | 0 => rightE r.A r.B
  | 1 => decide (r.C > r.D)
  | 2 => decide (r.D > 32)
  | 3 => decide (r.T > 8)
  | 4 => r.E
  | 5 => r.G == 0
  | 6 => r.J
  | 7 => r.M == 0
  | 8 => r.K
  | 9 => r.O == 0
  | 10 => r.L
  | 11 => r.Q == 0
  | 12 => r.I
  | _ => r.T == 0
def e19B : BE := (.an (.an (.an (.an (.an (.an (.an (.an (.a 0) (.no (.a 1))) (.no (.a 2))) (.no (.a 3))) (.or (.a 4) (.a 5))) (.or (.a 6) (.a 7))) (.or (.a 8) (.a 9))) (.or (.a 10) (.a 11))) (.or (.no (.a 12)) (.an (.an (.an (.no (.a 6)) (.no (.a 8))) (.no (.a 10))) (.a 13))))
def T19 : DT := .node 0 (.node 1 (.leaf 1) (.node 2 (.leaf 2) (.node 3 (.leaf 3) (.node 4 (.node 6 (.node 8 (.node 10 (.node 12 (.leaf 9) (.leaf 8)) (.node 11 (.node 12 (.leaf 11) (.leaf 10)) (.leaf 7))) (.node 9 (.node 10 (.node 12 (.leaf 14) (.leaf 13)) (.node 11 (.node 12 (.leaf 16) (.leaf 15)) (.leaf 12))) (.leaf 6))) (.node 7 (.node 8 (.node 10 (.node 12 (.leaf 20) (.leaf 19)) (.node 11 (.node 12 (.leaf 22) (.leaf 21)) (.leaf 18))) (.node 9 (.node 10 (.node 12 (.leaf 25) (.leaf 24)) (.node 11 (.node 12 (.node 13 (.leaf 27) (.leaf 27)) (.leaf 26)) (.leaf 23))) (.leaf 17))) (.leaf 5))) (.node 5 (.node 6 (.node 8 (.node 10 (.node 12 (.leaf 32) (.leaf 31)) (.node 11 (.node 12 (.leaf 34) (.leaf 33)) (.leaf 30))) (.node 9 (.node 10 (.node 12 (.leaf 37) (.leaf 36)) (.node 11 (.node 12 (.leaf 39) (.leaf 38)) (.leaf 35))) (.leaf 29))) (.node 7 (.node 8 (.node 10 (.node 12 (.leaf 43) (.leaf 42)) (.node 11 (.node 12 (.leaf 45) (.leaf 44)) (.leaf 41))) (.node 9 (.node 10 (.node 12 (.leaf 48) (.leaf 47)) (.node 11 (.node 12 (.node 13 (.leaf 50) (.leaf 50)) (.leaf 49)) (.leaf 46))) (.leaf 40))) (.leaf 28))) (.leaf 4)))))) (.leaf 0)
def A19 (x : MX) (r : RV) : Nat → Prop := fun _ => x.F = x.F ∧ pvOk r.A r.B
def L19 : List WayT := [⟨21, 1, [(0, 2), (0, 3)], .lit false⟩,
⟨21, 731, [(0, 2), (0, 4), (1, 1)], .lit false⟩,
⟨21, 60509, [(0, 2), (0, 4), (1, 0), (2, 1)], .lit false⟩,
⟨21, 4902527, [(0, 2), (0, 4), (1, 0), (2, 0), (3, 1)], .lit false⟩,
⟨25, 282826642466, [(0, 2), (0, 4), (1, 0), (2, 0), (3, 0), (4, 3), (5, 3)], .lit false⟩,
⟨42, 69478450500800, [(0, 2), (0, 4), (1, 0), (2, 0), (3, 0), (4, 4), (6, 3), (7, 3)], .lit false⟩,
⟨46, 4058115908947277150, [(0, 2), (0, 4), (1, 0), (2, 0), (3, 0), (4, 4), (6, 4), (8, 3), (9, 3)], .lit false⟩,
⟨50, 239627597317828561524116, [(0, 2), (0, 4), (1, 0), (2, 0), (3, 0), (4, 4), (6, 4), (8, 4), (10, 3), (11, 3)], .lit false⟩,
⟨60, 718554512746458157781909, [(0, 2), (0, 4), (1, 0), (2, 0), (3, 0), (4, 4), (6, 4), (8, 4), (10, 4), (12, 3)], .lit true⟩,
⟨72, 117735926506518430127332496, [(0, 2), (0, 4), (1, 0), (2, 0), (3, 0), (4, 4), (6, 4), (8, 4), (10, 4), (12, 4), (6, 4)], .lit false⟩,
⟨60, 1196824914240298679884448, [(0, 2), (0, 4), (1, 0), (2, 0), (3, 0), (4, 4), (6, 4), (8, 4), (10, 3), (11, 4), (12, 3)], .lit true⟩,
⟨72, 118214196908012270649435035, [(0, 2), (0, 4), (1, 0), (2, 0), (3, 0), (4, 4), (6, 4), (8, 4), (10, 3), (11, 4), (12, 4), (6, 4)], .lit false⟩,
⟨50, 239635696869074032921127, [(0, 2), (0, 4), (1, 0), (2, 0), (3, 0), (4, 4), (6, 4), (8, 3), (9, 4), (10, 3), (11, 3)], .lit false⟩,
⟨60, 718562612297703629178920, [(0, 2), (0, 4), (1, 0), (2, 0), (3, 0), (4, 4), (6, 4), (8, 3), (9, 4), (10, 4), (12, 3)], .lit true⟩,
⟨72, 117735934606069675598729507, [(0, 2), (0, 4), (1, 0), (2, 0), (3, 0), (4, 4), (6, 4), (8, 3), (9, 4), (10, 4), (12, 4), (6, 4)], .lit false⟩,
⟨60, 1196833013791544151281459, [(0, 2), (0, 4), (1, 0), (2, 0), (3, 0), (4, 4), (6, 4), (8, 3), (9, 4), (10, 3), (11, 4), (12, 3)], .lit true⟩,
⟨72, 118214205007563516120832046, [(0, 2), (0, 4), (1, 0), (2, 0), (3, 0), (4, 4), (6, 4), (8, 3), (9, 4), (10, 3), (11, 4), (12, 4), (6, 4)], .lit false⟩,
⟨46, 4058252322413397473, [(0, 2), (0, 4), (1, 0), (2, 0), (3, 0), (4, 4), (6, 3), (7, 4), (8, 3), (9, 3)], .lit false⟩,
⟨50, 239627597454242027644439, [(0, 2), (0, 4), (1, 0), (2, 0), (3, 0), (4, 4), (6, 3), (7, 4), (8, 4), (10, 3), (11, 3)], .lit false⟩,
⟨60, 718554512882871623902232, [(0, 2), (0, 4), (1, 0), (2, 0), (3, 0), (4, 4), (6, 3), (7, 4), (8, 4), (10, 4), (12, 3)], .lit true⟩,
⟨72, 84841902739936021812491929052, [(0, 2), (0, 4), (1, 0), (2, 0), (3, 0), (4, 4), (6, 3), (7, 4), (8, 4), (10, 4), (12, 4), (6, 3), (8, 4)], .lit false⟩,
⟨60, 1196824914376712146004771, [(0, 2), (0, 4), (1, 0), (2, 0), (3, 0), (4, 4), (6, 3), (7, 4), (8, 4), (10, 3), (11, 4), (12, 3)], .lit true⟩,
⟨72, 84842381010337515653014031591, [(0, 2), (0, 4), (1, 0), (2, 0), (3, 0), (4, 4), (6, 3), (7, 4), (8, 4), (10, 3), (11, 4), (12, 4), (6, 3), (8, 4)], .lit false⟩,
⟨50, 239635697005487499041450, [(0, 2), (0, 4), (1, 0), (2, 0), (3, 0), (4, 4), (6, 3), (7, 4), (8, 3), (9, 4), (10, 3), (11, 3)], .lit false⟩,
⟨60, 718562612434117095299243, [(0, 2), (0, 4), (1, 0), (2, 0), (3, 0), (4, 4), (6, 3), (7, 4), (8, 3), (9, 4), (10, 4), (12, 3)], .lit true⟩,
⟨72, 61848759509738044093384952499920, [(0, 2), (0, 4), (1, 0), (2, 0), (3, 0), (4, 4), (6, 3), (7, 4), (8, 3), (9, 4), (10, 4), (12, 4), (6, 3), (8, 3), (10, 4)], .lit false⟩,
⟨60, 1196833013927957617401782, [(0, 2), (0, 4), (1, 0), (2, 0), (3, 0), (4, 4), (6, 3), (7, 4), (8, 3), (9, 4), (10, 3), (11, 4), (12, 3)], .lit true⟩,
⟨72, 30945605605375833225304832798930, [(0, 2), (0, 4), (1, 0), (2, 0), (3, 0), (4, 4), (6, 3), (7, 4), (8, 3), (9, 4), (10, 3), (11, 4), (12, 4), (6, 3), (8, 3), (10, 3)], .a 13⟩,
⟨42, 70042922153273, [(0, 2), (0, 4), (1, 0), (2, 0), (3, 0), (4, 3), (5, 4), (6, 3), (7, 3)], .lit false⟩,
⟨46, 4058116473418929623, [(0, 2), (0, 4), (1, 0), (2, 0), (3, 0), (4, 3), (5, 4), (6, 4), (8, 3), (9, 3)], .lit false⟩,
⟨50, 239627597318393033176589, [(0, 2), (0, 4), (1, 0), (2, 0), (3, 0), (4, 3), (5, 4), (6, 4), (8, 4), (10, 3), (11, 3)], .lit false⟩,
⟨60, 718554512747022629434382, [(0, 2), (0, 4), (1, 0), (2, 0), (3, 0), (4, 3), (5, 4), (6, 4), (8, 4), (10, 4), (12, 3)], .lit true⟩,
⟨72, 117735926506518994598984969, [(0, 2), (0, 4), (1, 0), (2, 0), (3, 0), (4, 3), (5, 4), (6, 4), (8, 4), (10, 4), (12, 4), (6, 4)], .lit false⟩,
⟨60, 1196824914240863151536921, [(0, 2), (0, 4), (1, 0), (2, 0), (3, 0), (4, 3), (5, 4), (6, 4), (8, 4), (10, 3), (11, 4), (12, 3)], .lit true⟩,
⟨72, 118214196908012835121087508, [(0, 2), (0, 4), (1, 0), (2, 0), (3, 0), (4, 3), (5, 4), (6, 4), (8, 4), (10, 3), (11, 4), (12, 4), (6, 4)], .lit false⟩,
⟨50, 239635696869638504573600, [(0, 2), (0, 4), (1, 0), (2, 0), (3, 0), (4, 3), (5, 4), (6, 4), (8, 3), (9, 4), (10, 3), (11, 3)], .lit false⟩,
⟨60, 718562612298268100831393, [(0, 2), (0, 4), (1, 0), (2, 0), (3, 0), (4, 3), (5, 4), (6, 4), (8, 3), (9, 4), (10, 4), (12, 3)], .lit true⟩,
⟨72, 117735934606070240070381980, [(0, 2), (0, 4), (1, 0), (2, 0), (3, 0), (4, 3), (5, 4), (6, 4), (8, 3), (9, 4), (10, 4), (12, 4), (6, 4)], .lit false⟩,
⟨60, 1196833013792108622933932, [(0, 2), (0, 4), (1, 0), (2, 0), (3, 0), (4, 3), (5, 4), (6, 4), (8, 3), (9, 4), (10, 3), (11, 4), (12, 3)], .lit true⟩,
⟨72, 118214205007564080592484519, [(0, 2), (0, 4), (1, 0), (2, 0), (3, 0), (4, 3), (5, 4), (6, 4), (8, 3), (9, 4), (10, 3), (11, 4), (12, 4), (6, 4)], .lit false⟩,
⟨46, 4058252886885049946, [(0, 2), (0, 4), (1, 0), (2, 0), (3, 0), (4, 3), (5, 4), (6, 3), (7, 4), (8, 3), (9, 3)], .lit false⟩,
⟨50, 239627597454806499296912, [(0, 2), (0, 4), (1, 0), (2, 0), (3, 0), (4, 3), (5, 4), (6, 3), (7, 4), (8, 4), (10, 3), (11, 3)], .lit false⟩,
⟨60, 718554512883436095554705, [(0, 2), (0, 4), (1, 0), (2, 0), (3, 0), (4, 3), (5, 4), (6, 3), (7, 4), (8, 4), (10, 4), (12, 3)], .lit true⟩,
⟨72, 84841902739936022376963581525, [(0, 2), (0, 4), (1, 0), (2, 0), (3, 0), (4, 3), (5, 4), (6, 3), (7, 4), (8, 4), (10, 4), (12, 4), (6, 3), (8, 4)], .lit false⟩,
⟨60, 1196824914377276617657244, [(0, 2), (0, 4), (1, 0), (2, 0), (3, 0), (4, 3), (5, 4), (6, 3), (7, 4), (8, 4), (10, 3), (11, 4), (12, 3)], .lit true⟩,
⟨72, 84842381010337516217485684064, [(0, 2), (0, 4), (1, 0), (2, 0), (3, 0), (4, 3), (5, 4), (6, 3), (7, 4), (8, 4), (10, 3), (11, 4), (12, 4), (6, 3), (8, 4)], .lit false⟩,
⟨50, 239635697006051970693923, [(0, 2), (0, 4), (1, 0), (2, 0), (3, 0), (4, 3), (5, 4), (6, 3), (7, 4), (8, 3), (9, 4), (10, 3), (11, 3)], .lit false⟩,
⟨60, 718562612434681566951716, [(0, 2), (0, 4), (1, 0), (2, 0), (3, 0), (4, 3), (5, 4), (6, 3), (7, 4), (8, 3), (9, 4), (10, 4), (12, 3)], .lit true⟩,
⟨72, 61848759509738044093949424152393, [(0, 2), (0, 4), (1, 0), (2, 0), (3, 0), (4, 3), (5, 4), (6, 3), (7, 4), (8, 3), (9, 4), (10, 4), (12, 4), (6, 3), (8, 3), (10, 4)], .lit false⟩,
⟨60, 1196833013928522089054255, [(0, 2), (0, 4), (1, 0), (2, 0), (3, 0), (4, 3), (5, 4), (6, 3), (7, 4), (8, 3), (9, 4), (10, 3), (11, 4), (12, 3)], .lit true⟩,
⟨72, 30945605605375833225869304451403, [(0, 2), (0, 4), (1, 0), (2, 0), (3, 0), (4, 3), (5, 4), (6, 3), (7, 4), (8, 3), (9, 4), (10, 3), (11, 4), (12, 4), (6, 3), (8, 3), (10, 3)], .a 13⟩]
theorem ws19 (x : MX) (r : RV) : WaysOk Tryz.prog (KB2 x) x.F 19 [r.v] (B19 r) (A19 x r) L19 := by
  unfold L19
  refine ⟨?_, ⟨?_, ⟨?_, ⟨?_, ⟨?_, ⟨?_, ⟨?_, ⟨?_, ⟨?_, ⟨?_, ⟨?_, ⟨?_, ⟨?_, ⟨?_, ⟨?_, ⟨?_, ⟨?_, ⟨?_, ⟨?_, ⟨?_, ⟨?_, ⟨?_, ⟨?_, ⟨?_, ⟨?_, ⟨?_, ⟨?_, ⟨?_, ⟨?_, ⟨?_, ⟨?_, ⟨?_, ⟨?_, ⟨?_, ⟨?_, ⟨?_, ⟨?_, ⟨?_, ⟨?_, ⟨?_, ⟨?_, ⟨?_, ⟨?_, ⟨?_, ⟨?_, ⟨?_, ⟨?_, ⟨?_, ⟨?_, ⟨?_, ⟨?_, trivial⟩⟩⟩⟩⟩⟩⟩⟩⟩⟩⟩⟩⟩⟩⟩⟩⟩⟩⟩⟩⟩⟩⟩⟩⟩⟩⟩⟩⟩⟩⟩⟩⟩⟩⟩⟩⟩⟩⟩⟩⟩⟩⟩⟩⟩⟩⟩⟩⟩⟩⟩
  all_goals unfold WayOk; kernel_rfl
theorem rd19 {x : MX} {r : RV} (hR : rvOk r) : Rd Tryz.prog x.F 19 [r.v] (.bool (ruleQ r)) := by
  rw [show ruleQ r = e19B.ev (B19 r) from by
    unfold ruleQ
    rw [show decide (r.C ≤ r.D) = !decide (r.C > r.D) from by rw [← decide_not]; exact decide_eq_decide.2 (by omega), show decide (r.D ≤ 32) = !decide (r.D > 32) from by rw [← decide_not]; exact decide_eq_decide.2 (by omega), show decide (r.T ≤ 8) = !decide (r.T > 8) from by rw [← decide_not]; exact decide_eq_decide.2 (by omega)]
    rfl]
  exact Rd.tree pg (KB2_ok x) (ws19 x r) (fun _ => ⟨rfl, hR⟩) T19 (by decide +kernel)
end
end ob
end Go.Proofs.YthpoeegoankpoaaGreat
namespace Go.Proofs.YthpoeegoankpoaaGreat
open Go.ChangeShapes Go.WideShapes Go.ChangeAt Go.RowKit Go.Cln
namespace ob
set_option linter.unusedVariables false
end ob
end Go.Proofs.YthpoeegoankpoaaGreat
namespace Go.Proofs.YthpoeegoankpoaaGreat
open Go.ChangeShapes Go.WideShapes Go.ChangeAt Go.RowKit Go.Cln
namespace ob
set_option linter.unusedVariables false
noncomputable section
noncomputable def rw27 (x : MX) (args : List Value) : Option (Value × Prop) := match args with
  | [.agg z0] => (rvOf z0).bind fun u => some (.bool (ruleQ u), rvOk u)
  | _ => none
theorem rw27_ok (x : MX) {args : List Value} {r : Value × Prop} (h : rw27 x args = some r) : flat r.1 = true ∧ args.all farV = true ∧ (r.2 → Rd Tryz.prog x.F 27 args r.1) := by
  unfold rw27 at h
  split at h
  · rename_i z0
    rw [Option.bind_eq_some_iff] at h
    obtain ⟨u, hu, h⟩ := h
    cases h
    rw [rvOf_eq hu]
    exact ⟨rfl, rfl, fun hp => rd27 hp⟩
  · cases h
noncomputable def rw19 (x : MX) (args : List Value) : Option (Value × Prop) := match args with
  | [.agg z0] => (rvOf z0).bind fun u => some (.bool (ruleQ u), rvOk u)
  | _ => none
theorem rw19_ok (x : MX) {args : List Value} {r : Value × Prop} (h : rw19 x args = some r) : flat r.1 = true ∧ args.all farV = true ∧ (r.2 → Rd Tryz.prog x.F 19 args r.1) := by
  unfold rw19 at h
  split at h
  · rename_i z0
    rw [Option.bind_eq_some_iff] at h
    obtain ⟨u, hu, h⟩ := h
    cases h
    rw [rvOf_eq hu]
    exact ⟨rfl, rfl, fun hp => rd19 hp⟩
  · cases h
noncomputable def TR1 (x : MX) (f : FuncId) (args : List Value) : Option (Value × Prop) := if f == 27 then rw27 x args else if f == 19 then rw19 x args else TV x f args
theorem TR1_ok (x : MX) (f : FuncId) (args : List Value) (r : Value × Prop) (h : TR1 x f args = some r) : flat r.1 = true ∧ args.all farV = true ∧ (r.2 → Rd Tryz.prog x.F f args r.1) := by
  unfold TR1 at h
  by_cases e27 : (f == 27) = true
  · have hf : f = 27 := by simpa using e27
    subst hf
    exact rw27_ok x h
  rw [if_neg e27] at h
  by_cases e19 : (f == 19) = true
  · have hf : f = 19 := by simpa using e19
    subst hf
    exact rw19_ok x h
  rw [if_neg e19] at h
  exact TV_ok x f args r h
noncomputable def KR1 (x : MX) : Given := { Given.rds Given.nothing x.F (TR1 x) with fits := true }
theorem KR1_ok (x : MX) : GivenOk Tryz.prog (KR1 x) := frames_fits ((GivenOk.nothing _).rds (TR1_ok x)) true
theorem k26 (x : MX) (r : RV) : ((mk Tryz.prog (KR1 x) 200).call 26 [r.v] (smSt 1 [some (.fam x.F)] [])).map (fun r => (r.1, r.2.obl)) = some (.bool (!ruleQ r), (True ∧ (x.F = x.F ∧ rvOk r))) := by kernel_rfl
theorem rd26 {x : MX} {r : RV} (hR : rvOk r) : Rd Tryz.prog x.F 26 [r.v] (.bool (!ruleQ r)) := Rd.run pg (KR1_ok x) (k26 x r) ⟨trivial, rfl, hR⟩ rfl
noncomputable def rw26 (x : MX) (args : List Value) : Option (Value × Prop) := match args with
  | [.agg z0] => (rvOf z0).bind fun u => some (.bool (!ruleQ u), rvOk u)
  | _ => none
theorem rw26_ok (x : MX) {args : List Value} {r : Value × Prop} (h : rw26 x args = some r) : flat r.1 = true ∧ args.all farV = true ∧ (r.2 → Rd Tryz.prog x.F 26 args r.1) := by
  unfold rw26 at h
  split at h
  · rename_i z0
    rw [Option.bind_eq_some_iff] at h
    obtain ⟨u, hu, h⟩ := h
    cases h
    rw [rvOf_eq hu]
    exact ⟨rfl, rfl, fun hp => rd26 hp⟩
  · cases h
noncomputable def TR2 (x : MX) (f : FuncId) (args : List Value) : Option (Value × Prop) := if f == 26 then rw26 x args else TR1 x f args
theorem TR2_ok (x : MX) (f : FuncId) (args : List Value) (r : Value × Prop) (h : TR2 x f args = some r) : flat r.1 = true ∧ args.all farV = true ∧ (r.2 → Rd Tryz.prog x.F f args r.1) := by
  unfold TR2 at h
  by_cases e26 : (f == 26) = true
  · have hf : f = 26 := by simpa using e26
    subst hf
    exact rw26_ok x h
  rw [if_neg e26] at h
  exact TR1_ok x f args r h
noncomputable def KR2 (x : MX) : Given := { Given.rds Given.nothing x.F (TR2 x) with fits := true }
theorem KR2_ok (x : MX) : GivenOk Tryz.prog (KR2 x) := frames_fits ((GivenOk.nothing _).rds (TR2_ok x)) true
def b48 : Code := ((Tryz.prog.funcs[48]?).bind (·.body)).getD .skip
def l48 : Code := loopB Tryz.prog 48 0
def e48 : Code := dropC 2 b48
theorem fn48 : (Tryz.prog.funcs[48]?).map (fun f => (f.body, f.results.toList, f.ntmps)) = some (some b48, [.tmp 4], 19) := by kernel_rfl
noncomputable abbrev a48 (P n c : Nat) : List Value := [PR P n c, .func (.func 26) #[] #[]]
noncomputable def z48 (x : MX) (P n c : Nat) : St := { smSt 1 [some (.fam x.F)] [] with tmps := a48 P n c ++ List.replicate (19 - (a48 P n c).length) undef, defers := [] }
noncomputable def tm48 (v : VF) (P n c : Nat) (i : Nat) : List Value := (PR P n c :: .func (.func 26) #[] #[] :: vs v 2 5 (.int .i64 (nI n) :: .int .i64 (nI i) :: vs v 9 10 []))
theorem tm48_dead {v : VF} {P n c : Nat} {i : Nat} {B : Nat → Bool} (h : ∀ i, DeadV (v i)) (hB : ∀ i, ((Nat.ble 0 i && Nat.ble i 1) || (Nat.ble 7 i && Nat.ble i 8)) = true → B i = true) : deadT B 0 (tm48 v P n c i) :=
  ⟨fun e => absurd e (by rw [hB 0 rfl]; decide), ⟨fun e => absurd e (by rw [hB 1 rfl]; decide), deadT_vs h 5 (⟨fun e => absurd e (by rw [hB 7 rfl]; decide), ⟨fun e => absurd e (by rw [hB 8 rfl]; decide), deadT_vs h 10 (trivial)⟩⟩)⟩⟩
noncomputable def h48 (x : MX) (P n c : Nat) : Nat → Option Ob := fun i => match i with
  | 0 => some (.fam x.F)
  | _ => none
theorem h48_ok (x : MX) (P n c : Nat) : Go.Cln.RowsIn (h48 x P n c) := by
  intro b n' w' g' t h
  unfold h48 at h
  split at h <;> first | (cases h; done) | cases h
noncomputable def s48 (x : MX) (P n c : Nat) (i : Nat) (v : VF) : St := ⟨tm48 v P n c i, [], Tr.rebuild (h48 x P n c) 1, 1, 1, [], fun _ => false, True, []⟩
noncomputable def go48 (K : Given) (c : Code) (s : St) (o : List (Option Bool)) : Option (Exit × St) := (mk Tryz.prog K 200).code 48 none c { s with obl := True, orc := o }
noncomputable def gd48 (K : Given) (s : St) (o : List (Option Bool)) : Option (St × Code) := down (mk Tryz.prog K 200) 48 none [2, 3, 2, 0] b48 { s with obl := True, orc := o }
def WD48 (i : Nat) : Bool := Nat.beq i 4 || Nat.beq i 6
noncomputable def VD48 (v : VF) : VF := fun i => match WD48 i with
  | true => junk
  | false => v i
def BD48 (i : Nat) : Bool := ((Nat.ble 0 i && Nat.ble i 1) || (Nat.ble 7 i && Nat.ble i 8)) || WD48 i
theorem VD48_dead {v : VF} (h : ∀ i, DeadV (v i)) (i : Nat) : DeadV (VD48 v i) := by
  unfold VD48
  split
  · exact DeadV.junk
  · exact h i
theorem lvD48 (i : Nat) (h : ((Nat.ble 0 i && Nat.ble i 1) || (Nat.ble 7 i && Nat.ble i 8)) = true) : BD48 i = true := by
  unfold BD48
  simp only [Bool.or_eq_true] at h ⊢
  exact .inl h
def WR48 (i : Nat) : Bool := Nat.beq i 5 || (Nat.ble 9 i && Nat.ble i 14) || Nat.beq i 16 || Nat.beq i 18
noncomputable def VR48 (v : VF) : VF := fun i => match Nat.beq i 15 with
  | true => .agg #[junk, junk, junk, junk, junk, junk, junk, junk, junk, junk, junk, junk, junk, junk, junk]
  | false => match WR48 i with
  | true => junk
  | false => v i
def BR48 (i : Nat) : Bool := ((Nat.ble 0 i && Nat.ble i 1) || (Nat.ble 7 i && Nat.ble i 8)) || WR48 i || Nat.beq i 15
theorem VR48_dead {v : VF} (h : ∀ i, DeadV (v i)) (i : Nat) : DeadV (VR48 v i) := by
  unfold VR48
  split
  · exact ⟨rfl, fun _ => rfl, fun _ => rfl⟩
  split
  · exact DeadV.junk
  · exact h i
theorem lvR48 (i : Nat) (h : ((Nat.ble 0 i && Nat.ble i 1) || (Nat.ble 7 i && Nat.ble i 8)) = true) : BR48 i = true := by
  unfold BR48
  simp only [Bool.or_eq_true] at h ⊢
  refine .inl ?_
  exact .inl h
def WX48 (i : Nat) : Bool := Nat.beq i 9
noncomputable def VX48 (v : VF) : VF := fun i => match WX48 i with
  | true => junk
  | false => v i
def BX48 (i : Nat) : Bool := ((Nat.ble 0 i && Nat.ble i 1) || (Nat.ble 7 i && Nat.ble i 8)) || WX48 i
theorem VX48_dead {v : VF} (h : ∀ i, DeadV (v i)) (i : Nat) : DeadV (VX48 v i) := by
  unfold VX48
  split
  · exact DeadV.junk
  · exact h i
theorem lvX48 (i : Nat) (h : ((Nat.ble 0 i && Nat.ble i 1) || (Nat.ble 7 i && Nat.ble i 8)) = true) : BX48 i = true := by
  unfold BX48
  simp only [Bool.or_eq_true] at h ⊢
  exact .inl h
def pD_48 (x : MX) (P n c : Nat) (i : Nat) : Prop := True
def pR_48 (x : MX) (P n c : Nat) (i : Nat) : Prop := ((((((True ∧ decide (nI i < nI n) = true) ∧ 0 ≤ nI i ∧ nI i < nI n) ∧ (0 + i * 15) % 15 = 0 ∧ (0 + i * 15) / 15 < x.RN P) ∧ x.F = x.F ∧ rvOk (x.rv P (ixR i))) ∧ (!ruleQ (x.rv P (ixR i))) = false) ∧ IntKind.i64.wrap (nI i + 1) = nI i + 1)
def pX_48 (x : MX) (P n c : Nat) (i : Nat) : Prop := (True ∧ decide (nI i < nI n) = false)
def pF0_48 (x : MX) (P n c : Nat) (i : Nat) : Prop := (((((True ∧ decide (nI i < nI n) = true) ∧ 0 ≤ nI i ∧ nI i < nI n) ∧ (0 + i * 15) % 15 = 0 ∧ (0 + i * 15) / 15 < x.RN P) ∧ x.F = x.F ∧ rvOk (x.rv P (ixR i))) ∧ (!ruleQ (x.rv P (ixR i))) = true)
def pE0_48 (x : MX) (P n c : Nat) (i : Nat) : Prop := True
theorem kD48 (x : MX) (P n c : Nat) : (gd48 (KR2 x) (z48 x P n c) []).map (fun r => (r.2, r.1.obl, seenInT BD48 r.1 (s48 x P n c 0 (VD48 vU)) [0])) = some (.loop l48, pD_48 x P n c 0, seenAsT BD48 (s48 x P n c 0 (VD48 vU)) [0] 1) := by kernel_rfl
theorem kR48 (x : MX) (P n c : Nat) (i : Nat) (v : VF) : (go48 (KR2 x) l48 (s48 x P n c i v) [some true, some true, some false, some true, some false, some true]).map (fun r => (r.1, r.2.obl, seenInT BR48 r.2 (s48 x P n c (i + 1) (VR48 v)) [0])) = some (.normal, pR_48 x P n c i, seenAsT BR48 (s48 x P n c (i + 1) (VR48 v)) [0] 1) := by kernel_rfl
theorem kX48 (x : MX) (P n c : Nat) (i : Nat) (v : VF) : (go48 (KR2 x) l48 (s48 x P n c i v) [some false]).map (fun r => (r.1, r.2.obl, seenInT BX48 r.2 (s48 x P n c i (VX48 v)) [0])) = some (.exit 0, pX_48 x P n c i, seenAsT BX48 (s48 x P n c i (VX48 v)) [0] 1) := by kernel_rfl
theorem kF0_48 (x : MX) (P n c : Nat) (i : Nat) (v : VF) : (go48 (KR2 x) l48 (s48 x P n c i v) [some true, some true, some false, some true, some true]).bind (fun r => (results1 Tryz.prog r.2 [.tmp 4]).map fun q => (r.1, q.2.obl, r.2.defers, oneOf q.1)) = some (.ret, pF0_48 x P n c i, [], .int .i64 (nI i)) := by kernel_rfl
theorem kE0_48 (x : MX) (P n c : Nat) (i : Nat) (v : VF) : (go48 (KR2 x) e48 (s48 x P n c i v) []).bind (fun r => (results1 Tryz.prog r.2 [.tmp 4]).map fun q => (r.1, q.2.obl, r.2.defers, oneOf q.1)) = some (.ret, pE0_48 x P n c i, [], .int .i64 (-1)) := by kernel_rfl
theorem okD48 (x : MX) (P n c : Nat) (i : Nat) (v : VF) : picOkT BD48 (z48 x P n c) (s48 x P n c i (VD48 v)) [0] = true := by kernel_rfl
theorem okR48 (x : MX) (P n c : Nat) (i : Nat) (v : VF) : picOkT BR48 (z48 x P n c) (s48 x P n c i (VR48 v)) [0] = true := by kernel_rfl
theorem okX48 (x : MX) (P n c : Nat) (i : Nat) (v : VF) : picOkT BX48 (z48 x P n c) (s48 x P n c i (VX48 v)) [0] = true := by kernel_rfl
theorem up48 (x : MX) (P n c : Nat) (Q_ : Exit → St → Prop) : upQ Tryz.prog none (z48 x P n c) [2, 3, 2, 0] b48 Q_ = fun e s => (fun e s => (e = .normal ∧ StepG Tryz.prog none (z48 x P n c) e48 s Q_) ∨ (e ≠ .normal ∧ Q_ e s)) (blockOut 0 e) s := by kernel_rfl
theorem rd48 {x : MX} {P n c : Nat} (hP : rulesOk x P n) : Rd Tryz.prog x.F 48 (a48 P n c) (.int .i64 (whereI (ruE x P) n)) := by
  obtain ⟨p1, p2, p3⟩ := hP
  refine find_rd (way := [2, 3, 2, 0]) (pic := fun i v => s48 x P n c i v) (e := ruE x P) (N := n) (v0 := VD48 vU) (s0 := z48 x P n c) rfl fn48 rfl (fun Q_ h => StepG.downs pg (KR2_ok x) (kD48 x P n c) (trivial) (tm48_dead (VD48_dead vU_dead) lvD48) (h48_ok x P n c) rfl (okD48 x P n c 0 vU) h) (up48 x P n c) (fun i v hv hi he => ?_) (fun i v hv hi hp he => ?_) (fun v hv => ?_) (fun hall v hv => ?_) (VD48_dead vU_dead)
  · refine (StepG.stdT (s0 := z48 x P n c) (rd := none) pg (KR2_ok x) (kR48 x P n c i v) ?_ (show 1 ≤ 1 by decide) (tm48_dead (VR48_dead hv) lvR48) (h48_ok x P n c) rfl (okR48 x P n c (i + 1) v)).mono ?_
    · exact ⟨⟨⟨⟨⟨⟨trivial, decide_eq_true (by unfold nI; omega)⟩, by unfold nI; omega⟩, by omega⟩, ⟨rfl, by rw [ixR_eq]; exact p3 i hi⟩⟩, by unfold ruE at he; rw [he]; rfl⟩, by rw [IntKind.wrap_i64]; unfold nI; omega⟩
    · rintro ex s_ ⟨rfl, rfl⟩
      exact ⟨rfl, _, VR48_dead hv, rfl⟩
  · rw [whereI_at hi hp he]
    exact StepG.ranV (s0 := z48 x P n c) (rd := none) pg (KR2_ok x) (kF0_48 x P n c i v) ⟨⟨⟨⟨⟨trivial, decide_eq_true (by unfold nI; omega)⟩, by unfold nI; omega⟩, by omega⟩, ⟨rfl, by rw [ixR_eq]; exact p3 i hi⟩⟩, by unfold ruE at he; rw [he]; rfl⟩ (show 1 ≤ 1 by decide)
  · refine (StepG.stdT (s0 := z48 x P n c) (rd := none) pg (KR2_ok x) (kX48 x P n c n v) ⟨trivial, decide_eq_false (by unfold nI; omega)⟩ (show 1 ≤ 1 by decide) (tm48_dead (VX48_dead hv) lvX48) (h48_ok x P n c) rfl (okX48 x P n c n v)).mono ?_
    rintro ex s_ ⟨rfl, rfl⟩
    exact ⟨rfl, _, VX48_dead hv, rfl⟩
  · rw [whereI_all hall]
    exact StepG.ranV (s0 := z48 x P n c) (rd := none) pg (KR2_ok x) (kE0_48 x P n c n v) trivial (show 1 ≤ 1 by decide)
noncomputable def rw48 (x : MX) (args : List Value) : Option (Value × Prop) := match args with
  | [.slice (some ⟨P, 0, some 1000⟩) n c, .func (.func 26) ⟨[]⟩ ⟨[]⟩] => some (.int .i64 (whereI (ruE x P) n), rulesOk x P n)
  | _ => none
theorem rw48_ok (x : MX) {args : List Value} {r : Value × Prop} (h : rw48 x args = some r) : flat r.1 = true ∧ args.all farV = true ∧ (r.2 → Rd Tryz.prog x.F 48 args r.1) := by
  unfold rw48 at h
  split at h
  · rename_i P n c
    cases h
    exact ⟨rfl, rfl, fun hp => rd48 hp⟩
  · cases h
noncomputable def TR3 (x : MX) (f : FuncId) (args : List Value) : Option (Value × Prop) := if f == 48 then rw48 x args else TR2 x f args
theorem TR3_ok (x : MX) (f : FuncId) (args : List Value) (r : Value × Prop) (h : TR3 x f args = some r) : flat r.1 = true ∧ args.all farV = true ∧ (r.2 → Rd Tryz.prog x.F f args r.1) := by
  unfold TR3 at h
  by_cases e48 : (f == 48) = true
  · have hf : f = 48 := by simpa using e48
    subst hf
    exact rw48_ok x h
  rw [if_neg e48] at h
  exact TR2_ok x f args r h
noncomputable def KR3 (x : MX) : Given := { Given.rds Given.nothing x.F (TR3 x) with fits := true }
theorem KR3_ok (x : MX) : GivenOk Tryz.prog (KR3 x) := frames_fits ((GivenOk.nothing _).rds (TR3_ok x)) true
theorem k25 (x : MX) (P n c : Nat) : ((mk Tryz.prog (KR3 x) 200).call 25 [PR P n c, .func (.func 26) #[] #[]] (smSt 1 [some (.fam x.F)] [])).map (fun r => (r.1, r.2.obl)) = some (.bool (decide (whereI (ruE x P) n ≥ 0)), (True ∧ (x.F = x.F ∧ rulesOk x P n))) := by kernel_rfl
theorem rd25 {x : MX} {P n c : Nat} (hP : rulesOk x P n) : Rd Tryz.prog x.F 25 [PR P n c, .func (.func 26) #[] #[]] (.bool (!allB (ruE x P) n)) := by
  rw [← whereI_ge]
  exact Rd.run pg (KR3_ok x) (k25 x P n c) ⟨trivial, rfl, hP⟩ rfl
noncomputable def rw25 (x : MX) (args : List Value) : Option (Value × Prop) := match args with
  | [.slice (some ⟨P, 0, some 1000⟩) n c, .func (.func 26) ⟨[]⟩ ⟨[]⟩] => some (.bool (!allB (ruE x P) n), rulesOk x P n)
  | _ => none
theorem rw25_ok (x : MX) {args : List Value} {r : Value × Prop} (h : rw25 x args = some r) : flat r.1 = true ∧ args.all farV = true ∧ (r.2 → Rd Tryz.prog x.F 25 args r.1) := by
  unfold rw25 at h
  split at h
  · rename_i P n c
    cases h
    exact ⟨rfl, rfl, fun hp => rd25 hp⟩
  · cases h
noncomputable def TR4 (x : MX) (f : FuncId) (args : List Value) : Option (Value × Prop) := if f == 25 then rw25 x args else TR3 x f args
theorem TR4_ok (x : MX) (f : FuncId) (args : List Value) (r : Value × Prop) (h : TR4 x f args = some r) : flat r.1 = true ∧ args.all farV = true ∧ (r.2 → Rd Tryz.prog x.F f args r.1) := by
  unfold TR4 at h
  by_cases e25 : (f == 25) = true
  · have hf : f = 25 := by simpa using e25
    subst hf
    exact rw25_ok x h
  rw [if_neg e25] at h
  exact TR3_ok x f args r h
noncomputable def KR4 (x : MX) : Given := { Given.rds Given.nothing x.F (TR4 x) with fits := true }
theorem KR4_ok (x : MX) : GivenOk Tryz.prog (KR4 x) := frames_fits ((GivenOk.nothing _).rds (TR4_ok x)) true
end
end ob
end Go.Proofs.YthpoeegoankpoaaGreat
namespace Go.Proofs.YthpoeegoankpoaaGreat
open Go.ChangeShapes Go.WideShapes Go.ChangeAt Go.RowKit Go.Cln
namespace ob
set_option linter.unusedVariables false
noncomputable section
theorem chk_no {x : MX} {P n : Nat} (h : allB (ruE x P) n = false) : chkE x P n = 2 := by unfold chkE; rw [if_neg (by rw [h]; decide)]
theorem chk_long {x : MX} {P n : Nat} (h : allB (ruE x P) n = true) (h2 : decide (nI n > 16) = true) : chkE x P n = 3 := by unfold chkE; rw [if_pos h, if_pos h2]
theorem chk_ok {x : MX} {P n : Nat} (h : allB (ruE x P) n = true) (h2 : decide (nI n > 16) = false) : chkE x P n = 0 := by unfold chkE; rw [if_pos h, if_neg (by rw [h2]; decide)]
theorem k12_0 (x : MX) (p : PV) : ((mk Tryz.prog (KR4 x) 200).call 12 [p.v] (smSt 1 [some (.fam x.F)] [some true])).map (fun r => (r.1, r.2.obl)) = some (Value.int IntKind.i64 (Int.ofNat 2), ((True ∧ (x.F = x.F ∧ (rulesOk x p.P p.n))) ∧ (!allB (ruE x p.P) p.n) = true)) := by kernel_rfl
theorem k12_1 (x : MX) (p : PV) : ((mk Tryz.prog (KR4 x) 200).call 12 [p.v] (smSt 1 [some (.fam x.F)] [some false, some true])).map (fun r => (r.1, r.2.obl)) = some (Value.int IntKind.i64 (Int.ofNat 3), (((True ∧ (x.F = x.F ∧ (rulesOk x p.P p.n))) ∧ (!allB (ruE x p.P) p.n) = false) ∧ (decide (nI p.n > 16)) = true)) := by kernel_rfl
theorem k12_2 (x : MX) (p : PV) : ((mk Tryz.prog (KR4 x) 200).call 12 [p.v] (smSt 1 [some (.fam x.F)] [some false, some false])).map (fun r => (r.1, r.2.obl)) = some (Value.int IntKind.i64 (Int.ofNat 0), (((True ∧ (x.F = x.F ∧ (rulesOk x p.P p.n))) ∧ (!allB (ruE x p.P) p.n) = false) ∧ (decide (nI p.n > 16)) = false)) := by kernel_rfl
theorem rd12 {x : MX} {p : PV} (hP : rulesOk x p.P p.n) : Rd Tryz.prog x.F 12 [p.v] (.int .i64 (chkE x p.P p.n)) := by
  rcases Bool.eq_false_or_eq_true (!allB (ruE x p.P) p.n) with h0 | h0
  · skip
    rw [show (.int .i64 (chkE x p.P p.n) : Value) = Value.int IntKind.i64 (Int.ofNat 2) from by rw [chk_no (by simpa using h0)]; rfl]
    exact Rd.run pg (KR4_ok x) (k12_0 x p) ⟨⟨trivial, ⟨rfl, by exact hP⟩⟩, h0⟩ rfl
  · skip
    rcases Bool.eq_false_or_eq_true (decide (nI p.n > 16)) with h1 | h1
    · skip
      rw [show (.int .i64 (chkE x p.P p.n) : Value) = Value.int IntKind.i64 (Int.ofNat 3) from by rw [chk_long (by simpa using h0) h1]; rfl]
      exact Rd.run pg (KR4_ok x) (k12_1 x p) ⟨⟨⟨trivial, ⟨rfl, by exact hP⟩⟩, h0⟩, h1⟩ rfl
    · skip
      rw [show (.int .i64 (chkE x p.P p.n) : Value) = Value.int IntKind.i64 (Int.ofNat 0) from by rw [chk_ok (by simpa using h0) h1]; rfl]
      exact Rd.run pg (KR4_ok x) (k12_2 x p) ⟨⟨⟨trivial, ⟨rfl, by exact hP⟩⟩, h0⟩, h1⟩ rfl
def b13 : Code := ((Tryz.prog.funcs[13]?).bind (·.body)).getD .skip
def l13 : Code := loopB Tryz.prog 13 0
def e13 : Code := dropC 2 b13
theorem fn13 : (Tryz.prog.funcs[13]?).map (fun f => (f.body, f.results.toList, f.ntmps)) = some (some b13, [.tmp 2], 22) := by kernel_rfl
noncomputable abbrev a13 (p : PV) : List Value := [p.v]
noncomputable def z13 (x : MX) (p : PV) : St := { smSt 1 [some (.fam x.F)] [] with tmps := a13 p ++ List.replicate (22 - (a13 p).length) undef, defers := [] }
noncomputable def tm13 (v : VF) (p : PV) (i : Nat) : List Value := (p.v :: .pointer (some ⟨1, 0, none⟩) :: v 2 :: .int .i64 (nI i) :: vs v 4 18 [])
theorem tm13_dead {v : VF} {p : PV} {i : Nat} {B : Nat → Bool} (h : ∀ i, DeadV (v i)) (hB : ∀ i, ((Nat.ble 0 i && Nat.ble i 1) || Nat.beq i 3) = true → B i = true) : deadT B 0 (tm13 v p i) :=
  ⟨fun e => absurd e (by rw [hB 0 rfl]; decide), ⟨fun e => absurd e (by rw [hB 1 rfl]; decide), ⟨fun _ => h 2, ⟨fun e => absurd e (by rw [hB 3 rfl]; decide), deadT_vs h 18 (trivial)⟩⟩⟩⟩
noncomputable def h13 (x : MX) (p : PV) : Nat → Option Ob := fun i => match i with
  | 0 => some (.fam x.F)
  | 1 => some (.cells (.lit p.l) 29)
  | _ => none
theorem h13_ok (x : MX) (p : PV) : Go.Cln.RowsIn (h13 x p) := by
  intro b n' w' g' t h
  unfold h13 at h
  split at h <;> first | (cases h; done) | cases h
noncomputable def s13 (x : MX) (p : PV) (i : Nat) (v : VF) : St := ⟨tm13 v p i, [], Tr.rebuild (h13 x p) 2, 2, 1, [], fun _ => false, True, []⟩
noncomputable def go13 (K : Given) (c : Code) (s : St) (o : List (Option Bool)) : Option (Exit × St) := (mk Tryz.prog K 200).code 13 none c { s with obl := True, orc := o }
noncomputable def gd13 (K : Given) (s : St) (o : List (Option Bool)) : Option (St × Code) := down (mk Tryz.prog K 200) 13 none [2, 3, 2, 0] b13 { s with obl := True, orc := o }
def WD13 (i : Nat) : Bool := Nat.beq i 2
noncomputable def VD13 (v : VF) : VF := fun i => match WD13 i with
  | true => junk
  | false => v i
def BD13 (i : Nat) : Bool := ((Nat.ble 0 i && Nat.ble i 1) || Nat.beq i 3) || WD13 i
theorem VD13_dead {v : VF} (h : ∀ i, DeadV (v i)) (i : Nat) : DeadV (VD13 v i) := by
  unfold VD13
  split
  · exact DeadV.junk
  · exact h i
theorem lvD13 (i : Nat) (h : ((Nat.ble 0 i && Nat.ble i 1) || Nat.beq i 3) = true) : BD13 i = true := by
  unfold BD13
  simp only [Bool.or_eq_true] at h ⊢
  exact .inl h
def WR13 (i : Nat) : Bool := (Nat.ble 4 i && Nat.ble i 14) || (Nat.ble 16 i && Nat.ble i 17)
noncomputable def VR13 (v : VF) : VF := fun i => match Nat.beq i 15 with
  | true => .agg #[junk, junk, junk, junk, junk, junk, junk, junk, junk, junk, junk, junk, junk, junk, junk]
  | false => match WR13 i with
  | true => junk
  | false => v i
def BR13 (i : Nat) : Bool := ((Nat.ble 0 i && Nat.ble i 1) || Nat.beq i 3) || WR13 i || Nat.beq i 15
theorem VR13_dead {v : VF} (h : ∀ i, DeadV (v i)) (i : Nat) : DeadV (VR13 v i) := by
  unfold VR13
  split
  · exact ⟨rfl, fun _ => rfl, fun _ => rfl⟩
  split
  · exact DeadV.junk
  · exact h i
theorem lvR13 (i : Nat) (h : ((Nat.ble 0 i && Nat.ble i 1) || Nat.beq i 3) = true) : BR13 i = true := by
  unfold BR13
  simp only [Bool.or_eq_true] at h ⊢
  refine .inl ?_
  exact .inl h
def WX13 (i : Nat) : Bool := (Nat.ble 4 i && Nat.ble i 8)
noncomputable def VX13 (v : VF) : VF := fun i => match WX13 i with
  | true => junk
  | false => v i
def BX13 (i : Nat) : Bool := ((Nat.ble 0 i && Nat.ble i 1) || Nat.beq i 3) || WX13 i
theorem VX13_dead {v : VF} (h : ∀ i, DeadV (v i)) (i : Nat) : DeadV (VX13 v i) := by
  unfold VX13
  split
  · exact DeadV.junk
  · exact h i
theorem lvX13 (i : Nat) (h : ((Nat.ble 0 i && Nat.ble i 1) || Nat.beq i 3) = true) : BX13 i = true := by
  unfold BX13
  simp only [Bool.or_eq_true] at h ⊢
  exact .inl h
def pD_13 (x : MX) (p : PV) (i : Nat) : Prop := True
def pR_13 (x : MX) (p : PV) (i : Nat) : Prop := ((((((True ∧ decide (nI i < nI p.n) = true) ∧ 0 ≤ nI i ∧ nI i < nI p.n) ∧ (0 + i * 15) % 15 = 0 ∧ (0 + i * 15) / 15 < x.RN p.P) ∧ x.F = x.F ∧ rvOk (x.rv p.P (ixR i))) ∧ (!ruleQ (x.rv p.P (ixR i))) = false) ∧ IntKind.i64.wrap (nI i + 1) = nI i + 1)
def pX_13 (x : MX) (p : PV) (i : Nat) : Prop := (True ∧ decide (nI i < nI p.n) = false)
def pF0_13 (x : MX) (p : PV) (i : Nat) : Prop := (((((True ∧ decide (nI i < nI p.n) = true) ∧ 0 ≤ nI i ∧ nI i < nI p.n) ∧ (0 + i * 15) % 15 = 0 ∧ (0 + i * 15) / 15 < x.RN p.P) ∧ x.F = x.F ∧ rvOk (x.rv p.P (ixR i))) ∧ (!ruleQ (x.rv p.P (ixR i))) = true)
def pE0_13 (x : MX) (p : PV) (i : Nat) : Prop := (True ∧ decide (nI p.n > 16) = true)
def pE1_13 (x : MX) (p : PV) (i : Nat) : Prop := (True ∧ decide (nI p.n > 16) = false)
theorem kD13 (x : MX) (p : PV) : (gd13 (KR1 x) (z13 x p) []).map (fun r => (r.2, r.1.obl, seenInT BD13 r.1 (s13 x p 0 (VD13 vU)) [0, 1])) = some (.loop l13, pD_13 x p 0, seenAsT BD13 (s13 x p 0 (VD13 vU)) [0, 1] 2) := by kernel_rfl
theorem kR13 (x : MX) (p : PV) (i : Nat) (v : VF) : (go13 (KR1 x) l13 (s13 x p i v) [some true, some true, some false, some true, some false, some true]).map (fun r => (r.1, r.2.obl, seenInT BR13 r.2 (s13 x p (i + 1) (VR13 v)) [0, 1])) = some (.normal, pR_13 x p i, seenAsT BR13 (s13 x p (i + 1) (VR13 v)) [0, 1] 2) := by kernel_rfl
theorem kX13 (x : MX) (p : PV) (i : Nat) (v : VF) : (go13 (KR1 x) l13 (s13 x p i v) [some false]).map (fun r => (r.1, r.2.obl, seenInT BX13 r.2 (s13 x p i (VX13 v)) [0, 1])) = some (.exit 0, pX_13 x p i, seenAsT BX13 (s13 x p i (VX13 v)) [0, 1] 2) := by kernel_rfl
theorem kF0_13 (x : MX) (p : PV) (i : Nat) (v : VF) : (go13 (KR1 x) l13 (s13 x p i v) [some true, some true, some false, some true, some true]).bind (fun r => (results1 Tryz.prog r.2 [.tmp 2]).map fun q => (r.1, q.2.obl, r.2.defers, oneOf q.1)) = some (.ret, pF0_13 x p i, [], .int .i64 2) := by kernel_rfl
theorem kE0_13 (x : MX) (p : PV) (i : Nat) (v : VF) : (go13 (KR1 x) e13 (s13 x p i v) [some true]).bind (fun r => (results1 Tryz.prog r.2 [.tmp 2]).map fun q => (r.1, q.2.obl, r.2.defers, oneOf q.1)) = some (.ret, pE0_13 x p i, [], .int .i64 3) := by kernel_rfl
theorem kE1_13 (x : MX) (p : PV) (i : Nat) (v : VF) : (go13 (KR1 x) e13 (s13 x p i v) [some false]).bind (fun r => (results1 Tryz.prog r.2 [.tmp 2]).map fun q => (r.1, q.2.obl, r.2.defers, oneOf q.1)) = some (.ret, pE1_13 x p i, [], .int .i64 0) := by kernel_rfl
theorem okD13 (x : MX) (p : PV) (i : Nat) (v : VF) : picOkT BD13 (z13 x p) (s13 x p i (VD13 v)) [0, 1] = true := by kernel_rfl
theorem okR13 (x : MX) (p : PV) (i : Nat) (v : VF) : picOkT BR13 (z13 x p) (s13 x p i (VR13 v)) [0, 1] = true := by kernel_rfl
theorem okX13 (x : MX) (p : PV) (i : Nat) (v : VF) : picOkT BX13 (z13 x p) (s13 x p i (VX13 v)) [0, 1] = true := by kernel_rfl
theorem up13 (x : MX) (p : PV) (Q_ : Exit → St → Prop) : upQ Tryz.prog none (z13 x p) [2, 3, 2, 0] b13 Q_ = fun e s => (fun e s => (e = .normal ∧ StepG Tryz.prog none (z13 x p) e13 s Q_) ∨ (e ≠ .normal ∧ Q_ e s)) (blockOut 0 e) s := by kernel_rfl
theorem rd13 {x : MX} {p : PV} (hP : rulesOk x p.P p.n) : Rd Tryz.prog x.F 13 (a13 p) (.int .i64 (chkE x p.P p.n)) := by
  obtain ⟨p1, p2, p3⟩ := hP
  refine find_rd (way := [2, 3, 2, 0]) (pic := fun i v => s13 x p i v) (e := ruE x p.P) (N := p.n) (v0 := VD13 vU) (s0 := z13 x p) rfl fn13 rfl (fun Q_ h => StepG.downs pg (KR1_ok x) (kD13 x p) (trivial) (tm13_dead (VD13_dead vU_dead) lvD13) (h13_ok x p) rfl (okD13 x p 0 vU) h) (up13 x p) (fun i v hv hi he => ?_) (fun i v hv hi hp he => ?_) (fun v hv => ?_) (fun hall v hv => ?_) (VD13_dead vU_dead)
  · refine (StepG.stdT (s0 := z13 x p) (rd := none) pg (KR1_ok x) (kR13 x p i v) ?_ (show 1 ≤ 2 by decide) (tm13_dead (VR13_dead hv) lvR13) (h13_ok x p) rfl (okR13 x p (i + 1) v)).mono ?_
    · exact ⟨⟨⟨⟨⟨⟨trivial, decide_eq_true (by unfold nI; omega)⟩, by unfold nI; omega⟩, by omega⟩, ⟨rfl, by rw [ixR_eq]; exact p3 i hi⟩⟩, by unfold ruE at he; rw [he]; rfl⟩, by rw [IntKind.wrap_i64]; unfold nI; omega⟩
    · rintro ex s_ ⟨rfl, rfl⟩
      exact ⟨rfl, _, VR13_dead hv, rfl⟩
  · rw [chk_no (allB_no he hi)]
    exact StepG.ranV (s0 := z13 x p) (rd := none) pg (KR1_ok x) (kF0_13 x p i v) ⟨⟨⟨⟨⟨trivial, decide_eq_true (by unfold nI; omega)⟩, by unfold nI; omega⟩, by omega⟩, ⟨rfl, by rw [ixR_eq]; exact p3 i hi⟩⟩, by unfold ruE at he; rw [he]; rfl⟩ (show 1 ≤ 2 by decide)
  · refine (StepG.stdT (s0 := z13 x p) (rd := none) pg (KR1_ok x) (kX13 x p p.n v) ⟨trivial, decide_eq_false (by unfold nI; omega)⟩ (show 1 ≤ 2 by decide) (tm13_dead (VX13_dead hv) lvX13) (h13_ok x p) rfl (okX13 x p p.n v)).mono ?_
    rintro ex s_ ⟨rfl, rfl⟩
    exact ⟨rfl, _, VX13_dead hv, rfl⟩
  · rcases Bool.eq_false_or_eq_true (decide (nI p.n > 16)) with h0 | h0
    · rw [chk_long (allB_all hall) h0]
      exact StepG.ranV (s0 := z13 x p) (rd := none) pg (KR1_ok x) (kE0_13 x p p.n v) ⟨trivial, h0⟩ (show 1 ≤ 2 by decide)
    · rw [chk_ok (allB_all hall) h0]
      exact StepG.ranV (s0 := z13 x p) (rd := none) pg (KR1_ok x) (kE1_13 x p p.n v) ⟨trivial, h0⟩ (show 1 ≤ 2 by decide)
end
end ob
end Go.Proofs.YthpoeegoankpoaaGreat
namespace Go.Proofs.YthpoeegoankpoaaGreat
open Go.ChangeShapes Go.WideShapes Go.ChangeAt Go.RowKit Go.Cln
namespace ob
set_option linter.unusedVariables false
noncomputable section
noncomputable def rec43 (a : AV) (w : Int) (st : LoopState) (pe : Option Code) : CLoop := { state := st, pending := pe, tmps := [a.v, .int .u32 w, .pointer (some ⟨1, 0, none⟩), .pointer (some ⟨2, 0, none⟩), .bool false, .pointer (some ⟨3, 0, none⟩), undef, undef, .pointer (some ⟨1, 1, none⟩), PLg a.P a.n a.c, .func (.func 98) #[] #[.pointer (some ⟨4, 0, none⟩)], undef, undef, undef, undef, undef, undef, undef], params := (rngAt Tryz.prog 43 0).1, assign := (rngAt Tryz.prog 43 0).2.1, body := (rngAt Tryz.prog 43 0).2.2, defers := 5 }
def l43 : Code := loopB Tryz.prog 98 0
def l43i : Code := loopB Tryz.prog 98 1
noncomputable def tm43 (v : VF) (a : AV) (w : Int) (i : Nat) : List Value := (.func (.yield 6) #[] #[] :: .pointer (some ⟨4, 0, none⟩) :: vs v 2 5 (PLg a.P a.n a.c :: .int .i64 (nI a.n) :: .int .i64 (nI i) :: vs v 10 18 []))
theorem tm43_dead {v : VF} {a : AV} {w : Int} {i : Nat} {B : Nat → Bool} (h : ∀ i, DeadV (v i)) (hB : ∀ i, ((Nat.ble 0 i && Nat.ble i 1) || (Nat.ble 7 i && Nat.ble i 9)) = true → B i = true) : deadT B 0 (tm43 v a w i) :=
  ⟨fun e => absurd e (by rw [hB 0 rfl]; decide), ⟨fun e => absurd e (by rw [hB 1 rfl]; decide), deadT_vs h 5 (⟨fun e => absurd e (by rw [hB 7 rfl]; decide), ⟨fun e => absurd e (by rw [hB 8 rfl]; decide), ⟨fun e => absurd e (by rw [hB 9 rfl]; decide), deadT_vs h 18 (trivial)⟩⟩⟩)⟩⟩
noncomputable def tm43i (v : VF) (x : MX) (a : AV) (w : Int) (j i : Nat) : List Value := (.func (.yield 6) #[] #[] :: .pointer (some ⟨4, 0, none⟩) :: v 2 :: .int .i64 (nI j) :: vs v 4 3 (PLg a.P a.n a.c :: .int .i64 (nI a.n) :: .int .i64 (nI j) :: vs v 10 5 (PU (x.LQ a.P (ix2 j)) (x.LM a.P (ix2 j)) (x.LC a.P (ix2 j)) :: .int .i64 (nI (x.LM a.P (ix2 j))) :: .int .i64 (nI i) :: vs v 18 10 [])))
theorem tm43i_dead {v : VF} {x : MX} {a : AV} {w : Int} {j i : Nat} {B : Nat → Bool} (h : ∀ i, DeadV (v i)) (hB : ∀ i, ((Nat.ble 0 i && Nat.ble i 1) || Nat.beq i 3 || (Nat.ble 7 i && Nat.ble i 9) || (Nat.ble 15 i && Nat.ble i 17)) = true → B i = true) : deadT B 0 (tm43i v x a w j i) :=
  ⟨fun e => absurd e (by rw [hB 0 rfl]; decide), ⟨fun e => absurd e (by rw [hB 1 rfl]; decide), ⟨fun _ => h 2, ⟨fun e => absurd e (by rw [hB 3 rfl]; decide), deadT_vs h 3 (⟨fun e => absurd e (by rw [hB 7 rfl]; decide), ⟨fun e => absurd e (by rw [hB 8 rfl]; decide), ⟨fun e => absurd e (by rw [hB 9 rfl]; decide), deadT_vs h 5 (⟨fun e => absurd e (by rw [hB 15 rfl]; decide), ⟨fun e => absurd e (by rw [hB 16 rfl]; decide), ⟨fun e => absurd e (by rw [hB 17 rfl]; decide), deadT_vs h 10 (trivial)⟩⟩⟩)⟩⟩⟩)⟩⟩⟩⟩
noncomputable def h43 (x : MX) (a : AV) (w : Int) : Nat → Option Ob := fun i_ => match i_ with
  | 0 => some (.fam x.F)
  | 1 => some (.cells (.lit a.l) 33)
  | 2 => some (.cells (.lit [.int .u32 w]) 22)
  | 3 => some (.cells (.lit [.bool false]) 4)
  | 4 => some (.cells (.lit [PLg a.P a.n a.c]) 30)
  | 5 => some .marks
  | 6 => some (.loop (rec43 a w .ready none))
  | _ => none
theorem h43_ok (x : MX) (a : AV) (w : Int) : Go.Cln.RowsIn (h43 x a w) := by
  intro b n' w' g' t h
  unfold h43 at h
  split at h <;> first | (cases h; done) | cases h
noncomputable def h43h (x : MX) (a : AV) (w : Int) : Nat → Option Ob := fun i_ => match i_ with
  | 0 => some (.fam x.F)
  | 1 => some (.cells (.lit a.l) 33)
  | 2 => some (.cells (.lit [.int .u32 w]) 22)
  | 3 => some (.cells (.lit [.bool true]) 4)
  | 4 => some (.cells (.lit [PLg a.P a.n a.c]) 30)
  | 5 => some .marks
  | 6 => some (.loop (rec43 a w .done (some (.exit 0))))
  | _ => none
theorem h43h_ok (x : MX) (a : AV) (w : Int) : Go.Cln.RowsIn (h43h x a w) := by
  intro b n' w' g' t h
  unfold h43h at h
  split at h <;> first | (cases h; done) | cases h
noncomputable def s43 (x : MX) (a : AV) (w : Int) (i : Nat) (v : VF) : St := ⟨tm43 v a w i, [], Tr.rebuild (h43 x a w) 7, 7, 1, [], fun _ => false, True, []⟩
noncomputable def s43i (x : MX) (a : AV) (w : Int) (j i : Nat) (v : VF) : St := ⟨tm43i v x a w j i, [], Tr.rebuild (h43 x a w) 7, 7, 1, [], fun _ => false, True, []⟩
noncomputable def s43h (x : MX) (a : AV) (w : Int) (j i : Nat) (v : VF) : St := ⟨tm43i v x a w j i, [], Tr.rebuild (h43h x a w) 7, 7, 1, [], fun _ => false, True, []⟩
noncomputable def go43 (rd : Option Nat) (c : Code) (s : St) (o : List (Option Bool)) : Option (Exit × St) := (mk Tryz.prog KN 200).code 98 rd c { s with obl := True, orc := o }
noncomputable def gd43 (rd : Option Nat) (s : St) (o : List (Option Bool)) : Option (St × Code) := down (mk Tryz.prog KN 200) 98 rd [2, 2, 3, 0, 2, 2, 0] l43 { s with obl := True, orc := o }
end
end ob
end Go.Proofs.YthpoeegoankpoaaGreat
namespace Go.Proofs.YthpoeegoankpoaaGreat
open Go.ChangeShapes Go.WideShapes Go.ChangeAt Go.RowKit Go.Cln
namespace ob
set_option linter.unusedVariables false
noncomputable section
def WD4 (i : Nat) : Bool := Nat.beq i 4 || (Nat.ble 10 i && Nat.ble i 12) || Nat.beq i 14
noncomputable def VD4 (v : VF) : VF := fun i => match Nat.beq i 13 with
  | true => .agg #[junk, junk]
  | false => match WD4 i with
  | true => junk
  | false => v i
def BD4 (i : Nat) : Bool := ((Nat.ble 0 i && Nat.ble i 1) || Nat.beq i 3 || (Nat.ble 7 i && Nat.ble i 9) || (Nat.ble 15 i && Nat.ble i 17)) || WD4 i || Nat.beq i 13
theorem VD4_dead {v : VF} (h : ∀ i, DeadV (v i)) (i : Nat) : DeadV (VD4 v i) := by
  unfold VD4
  split
  · exact ⟨rfl, fun _ => rfl, fun _ => rfl⟩
  split
  · exact DeadV.junk
  · exact h i
theorem lvD4 (i : Nat) (h : ((Nat.ble 0 i && Nat.ble i 1) || Nat.beq i 3 || (Nat.ble 7 i && Nat.ble i 9) || (Nat.ble 15 i && Nat.ble i 17)) = true) : BD4 i = true := by
  unfold BD4
  simp only [Bool.or_eq_true] at h ⊢
  refine .inl ?_
  exact .inl h
def WR4 (i : Nat) : Bool := Nat.beq i 6 || (Nat.ble 18 i && Nat.ble i 26)
noncomputable def VR4 (v : VF) : VF := fun i => match WR4 i with
  | true => junk
  | false => v i
def BR4 (i : Nat) : Bool := ((Nat.ble 0 i && Nat.ble i 1) || Nat.beq i 3 || (Nat.ble 7 i && Nat.ble i 9) || (Nat.ble 15 i && Nat.ble i 17)) || WR4 i
theorem VR4_dead {v : VF} (h : ∀ i, DeadV (v i)) (i : Nat) : DeadV (VR4 v i) := by
  unfold VR4
  split
  · exact DeadV.junk
  · exact h i
theorem lvR4 (i : Nat) (h : ((Nat.ble 0 i && Nat.ble i 1) || Nat.beq i 3 || (Nat.ble 7 i && Nat.ble i 9) || (Nat.ble 15 i && Nat.ble i 17)) = true) : BR4 i = true := by
  unfold BR4
  simp only [Bool.or_eq_true] at h ⊢
  exact .inl h
def WH4 (i : Nat) : Bool := Nat.beq i 6 || (Nat.ble 18 i && Nat.ble i 25)
noncomputable def VH4 (v : VF) : VF := fun i => match WH4 i with
  | true => junk
  | false => v i
def BH4 (i : Nat) : Bool := ((Nat.ble 0 i && Nat.ble i 1) || Nat.beq i 3 || (Nat.ble 7 i && Nat.ble i 9) || (Nat.ble 15 i && Nat.ble i 17)) || WH4 i
theorem VH4_dead {v : VF} (h : ∀ i, DeadV (v i)) (i : Nat) : DeadV (VH4 v i) := by
  unfold VH4
  split
  · exact DeadV.junk
  · exact h i
theorem lvH4 (i : Nat) (h : ((Nat.ble 0 i && Nat.ble i 1) || Nat.beq i 3 || (Nat.ble 7 i && Nat.ble i 9) || (Nat.ble 15 i && Nat.ble i 17)) = true) : BH4 i = true := by
  unfold BH4
  simp only [Bool.or_eq_true] at h ⊢
  exact .inl h
def WX4 (i : Nat) : Bool := Nat.beq i 18
noncomputable def VX4 (v : VF) : VF := fun i => match WX4 i with
  | true => junk
  | false => v i
def BX4 (i : Nat) : Bool := ((Nat.ble 0 i && Nat.ble i 1) || Nat.beq i 3 || (Nat.ble 7 i && Nat.ble i 9) || (Nat.ble 15 i && Nat.ble i 17)) || WX4 i
theorem VX4_dead {v : VF} (h : ∀ i, DeadV (v i)) (i : Nat) : DeadV (VX4 v i) := by
  unfold VX4
  split
  · exact DeadV.junk
  · exact h i
theorem lvX4 (i : Nat) (h : ((Nat.ble 0 i && Nat.ble i 1) || Nat.beq i 3 || (Nat.ble 7 i && Nat.ble i 9) || (Nat.ble 15 i && Nat.ble i 17)) = true) : BX4 i = true := by
  unfold BX4
  simp only [Bool.or_eq_true] at h ⊢
  exact .inl h
def WN4 (i : Nat) : Bool := Nat.beq i 3 || (Nat.ble 15 i && Nat.ble i 17) || Nat.beq i 27
noncomputable def VN4 (v : VF) : VF := fun i => match WN4 i with
  | true => junk
  | false => v i
def BN4 (i : Nat) : Bool := ((Nat.ble 0 i && Nat.ble i 1) || (Nat.ble 7 i && Nat.ble i 9)) || WN4 i
theorem VN4_dead {v : VF} (h : ∀ i, DeadV (v i)) (i : Nat) : DeadV (VN4 v i) := by
  unfold VN4
  split
  · exact DeadV.junk
  · exact h i
theorem lvN4 (i : Nat) (h : ((Nat.ble 0 i && Nat.ble i 1) || (Nat.ble 7 i && Nat.ble i 9)) = true) : BN4 i = true := by
  unfold BN4
  simp only [Bool.or_eq_true] at h ⊢
  exact .inl h
def WY4 (i : Nat) : Bool := Nat.beq i 10
noncomputable def VY4 (v : VF) : VF := fun i => match WY4 i with
  | true => junk
  | false => v i
def BY4 (i : Nat) : Bool := ((Nat.ble 0 i && Nat.ble i 1) || (Nat.ble 7 i && Nat.ble i 9)) || WY4 i
theorem VY4_dead {v : VF} (h : ∀ i, DeadV (v i)) (i : Nat) : DeadV (VY4 v i) := by
  unfold VY4
  split
  · exact DeadV.junk
  · exact h i
theorem lvY4 (i : Nat) (h : ((Nat.ble 0 i && Nat.ble i 1) || (Nat.ble 7 i && Nat.ble i 9)) = true) : BY4 i = true := by
  unfold BY4
  simp only [Bool.or_eq_true] at h ⊢
  exact .inl h
theorem kDo (rd : Option Nat) (x : MX) (a : AV) (w : Int) (i : Nat) (v : VF) : (gd43 rd (s43 x a w i v) [some true, some true, some false, some true]).map (fun u_ => (u_.2, u_.1.obl, seenInT BD4 u_.1 (s43i x a w i 0 (VD4 v)) [0, 1, 2, 3, 4, 5, 6])) = some (.loop l43i, (((True ∧ decide (nI i < nI a.n) = true) ∧ 0 ≤ nI i ∧ nI i < nI a.n) ∧ (0 + i * 2) % 2 = 0 ∧ (0 + i * 2) / 2 < x.LN a.P), seenAsT BD4 (s43i x a w i 0 (VD4 v)) [0, 1, 2, 3, 4, 5, 6] 8) := by kernel_rfl
theorem kRi (rd : Option Nat) (x : MX) (a : AV) (w : Int) (j i : Nat) (v : VF) : (go43 rd l43i (s43i x a w j i v) [some true, some true, some true, some false, none, some true]).map (fun u_ => (u_.1, u_.2.obl, seenInT BR4 u_.2 (s43i x a w j (i + 1) (VR4 v)) [0, 1, 2, 3, 4, 5, 6])) = some (.normal, (((((True ∧ decide (nI i < nI (x.LM a.P (ix2 j))) = true) ∧ 0 ≤ nI i ∧ nI i < nI (x.LM a.P (ix2 j))) ∧ 0 + i * 1 < (x.U (x.LQ a.P (ix2 j))).length) ∧ ((x.U (x.LQ a.P (ix2 j))).getD (0 + i * 1) 0 == w) = false) ∧ IntKind.i64.wrap (nI i + 1) = nI i + 1), seenAsT BR4 (s43i x a w j (i + 1) (VR4 v)) [0, 1, 2, 3, 4, 5, 6] 7) := by kernel_rfl
theorem kHi (rd : Option Nat) (x : MX) (a : AV) (w : Int) (j i : Nat) (v : VF) : (go43 rd l43i (s43i x a w j i v) [some true, some true, some true, some true]).map (fun u_ => (u_.1, u_.2.obl, seenInT BH4 u_.2 (s43h x a w j i (VH4 v)) [0, 1, 2, 3, 4, 5, 6])) = some (.ret, ((((True ∧ decide (nI i < nI (x.LM a.P (ix2 j))) = true) ∧ 0 ≤ nI i ∧ nI i < nI (x.LM a.P (ix2 j))) ∧ 0 + i * 1 < (x.U (x.LQ a.P (ix2 j))).length) ∧ ((x.U (x.LQ a.P (ix2 j))).getD (0 + i * 1) 0 == w) = true), seenAsT BH4 (s43h x a w j i (VH4 v)) [0, 1, 2, 3, 4, 5, 6] 7) := by kernel_rfl
theorem kXi (rd : Option Nat) (x : MX) (a : AV) (w : Int) (j i : Nat) (v : VF) : (go43 rd l43i (s43i x a w j i v) [some false]).map (fun u_ => (u_.1, u_.2.obl, seenInT BX4 u_.2 (s43i x a w j i (VX4 v)) [0, 1, 2, 3, 4, 5, 6])) = some (.exit 2, (True ∧ decide (nI i < nI (x.LM a.P (ix2 j))) = false), seenAsT BX4 (s43i x a w j i (VX4 v)) [0, 1, 2, 3, 4, 5, 6] 7) := by kernel_rfl
theorem kNo (rd : Option Nat) (x : MX) (a : AV) (w : Int) (j i : Nat) (v : VF) : (go43 rd (dropC 3 l43) (s43i x a w j i v) [some true]).map (fun u_ => (u_.1, u_.2.obl, seenInT BN4 u_.2 (s43 x a w (j + 1) (VN4 v)) [0, 1, 2, 3, 4, 5, 6])) = some (.normal, (True ∧ IntKind.i64.wrap (nI j + 1) = nI j + 1), seenAsT BN4 (s43 x a w (j + 1) (VN4 v)) [0, 1, 2, 3, 4, 5, 6] 7) := by kernel_rfl
theorem kXo (rd : Option Nat) (x : MX) (a : AV) (w : Int) (i : Nat) (v : VF) : (go43 rd l43 (s43 x a w i v) [some false]).map (fun u_ => (u_.1, u_.2.obl, seenInT BY4 u_.2 (s43 x a w i (VY4 v)) [0, 1, 2, 3, 4, 5, 6])) = some (.exit 0, (True ∧ decide (nI i < nI a.n) = false), seenAsT BY4 (s43 x a w i (VY4 v)) [0, 1, 2, 3, 4, 5, 6] 7) := by kernel_rfl
theorem okD4 (rd : Option Nat) (x : MX) (a : AV) (w : Int) (i : Nat) (v : VF) : picOkT BD4 (s43 x a w 0 vU) (s43i x a w i 0 (VD4 v)) [0, 1, 2, 3, 4, 5, 6] = true := by kernel_rfl
theorem okR4 (rd : Option Nat) (x : MX) (a : AV) (w : Int) (j i : Nat) (v : VF) : picOkT BR4 (s43 x a w 0 vU) (s43i x a w j i (VR4 v)) [0, 1, 2, 3, 4, 5, 6] = true := by kernel_rfl
theorem okH4 (rd : Option Nat) (x : MX) (a : AV) (w : Int) (j i : Nat) (v : VF) : picOkT BH4 (s43 x a w 0 vU) (s43h x a w j i (VH4 v)) [0, 1, 2, 3, 4, 5, 6] = true := by kernel_rfl
theorem okX4 (rd : Option Nat) (x : MX) (a : AV) (w : Int) (j i : Nat) (v : VF) : picOkT BX4 (s43 x a w 0 vU) (s43i x a w j i (VX4 v)) [0, 1, 2, 3, 4, 5, 6] = true := by kernel_rfl
theorem okN4 (rd : Option Nat) (x : MX) (a : AV) (w : Int) (i : Nat) (v : VF) : picOkT BN4 (s43 x a w 0 vU) (s43 x a w i (VN4 v)) [0, 1, 2, 3, 4, 5, 6] = true := by kernel_rfl
theorem okY4 (rd : Option Nat) (x : MX) (a : AV) (w : Int) (i : Nat) (v : VF) : picOkT BY4 (s43 x a w 0 vU) (s43 x a w i (VY4 v)) [0, 1, 2, 3, 4, 5, 6] = true := by kernel_rfl
theorem up43 (rd : Option Nat) (s0 : St) (Q_ : Exit → St → Prop) : upQ Tryz.prog rd s0 [2, 2, 3, 0, 2, 2, 0] l43 Q_ = fun e s => (fun e s => (fun e s => (e = .normal ∧ StepG Tryz.prog rd s0 (dropC 3 l43) s Q_) ∨ (e ≠ .normal ∧ Q_ e s)) (blockOut 1 e) s) (blockOut 2 e) s := by kernel_rfl
end
end ob
end Go.Proofs.YthpoeegoankpoaaGreat
namespace Go.Proofs.YthpoeegoankpoaaGreat
open Go.ChangeShapes Go.WideShapes Go.ChangeAt Go.RowKit Go.Cln
namespace ob
set_option linter.unusedVariables false
noncomputable section
noncomputable def Wi4 (v : VF) : Nat → VF
  | 0 => VD4 v
  | i + 1 => VR4 (Wi4 v i)
noncomputable def Wo4 (x : MX) (P : Nat) : Nat → VF
  | 0 => vU
  | j + 1 => VN4 (VX4 (Wi4 (Wo4 x P j) (x.LM P (ix2 j))))
theorem Wi4_dead {v : VF} (h : ∀ j, DeadV (v j)) : ∀ i j, DeadV (Wi4 v i j)
  | 0, j => VD4_dead h j
  | i + 1, j => VR4_dead (Wi4_dead h i) j
theorem Wo4_dead {x : MX} {P : Nat} : ∀ i j, DeadV (Wo4 x P i j)
  | 0, j => vU_dead j
  | i + 1, j => VN4_dead (VX4_dead (Wi4_dead (Wo4_dead i) _)) j
noncomputable abbrev Wk4 (x : MX) (P j : Nat) : Nat → VF := Wi4 (Wo4 x P j)
theorem Wk4_dead {x : MX} {P j : Nat} (i : Nat) : ∀ k, DeadV (Wk4 x P j i k) := Wi4_dead (Wo4_dead j) i
noncomputable def none2E (x : MX) (P : Nat) (w : Int) (i : Nat) : Bool := allB (isnt2E x (x.LQ P (ix2 i)) w) (x.LM P (ix2 i))
theorem none2_eq {x : MX} {P : Nat} {w : Int} {i : Nat} : none2E x P w i = noneE x P w i := by unfold none2E noneE; rw [ix2_eq, ix3_eq]
noncomputable abbrev H43 (x : MX) (a : AV) (w : Int) : St := s43 x a w 0 vU
noncomputable def Xh43 (x : MX) (a : AV) (w : Int) (j k : Nat) : St := s43h x a w j k (VH4 (Wk4 x a.P j k))
noncomputable def Xn43 (x : MX) (a : AV) (w : Int) : St := s43 x a w a.n (VY4 (Wo4 x a.P a.n))
def At4 (x : MX) (a : AV) (w : Int) (j k : Nat) : Prop := j < a.n ∧ (∀ i, i < j → none2E x a.P w i = true) ∧ k < x.LM a.P (ix2 j) ∧ (∀ i, i < k → isnt2E x (x.LQ a.P (ix2 j)) w i = true) ∧ isnt2E x (x.LQ a.P (ix2 j)) w k = false
theorem inner43 {x : MX} {a : AV} {w : Int} {rd : Option Nat} (hA : legOk x a.P a.n) {j : Nat} (hj : j < a.n) : StepG Tryz.prog rd (H43 x a w) (.loop l43i) (s43i x a w j 0 (Wk4 x a.P j 0)) fun ex s => (ex = .exit 2 ∧ (∀ k, k < x.LM a.P (ix2 j) → isnt2E x (x.LQ a.P (ix2 j)) w k = true) ∧ s = s43i x a w j (x.LM a.P (ix2 j)) (VX4 (Wk4 x a.P j (x.LM a.P (ix2 j))))) ∨ (ex ≠ .normal ∧ ex = .ret ∧ ∃ k, k < x.LM a.P (ix2 j) ∧ (∀ i, i < k → isnt2E x (x.LQ a.P (ix2 j)) w i = true) ∧ isnt2E x (x.LQ a.P (ix2 j)) w k = false ∧ s = Xh43 x a w j k) := by
  obtain ⟨p1, p2, p3⟩ := hA
  have q2 : x.LM a.P (ix2 j) ≤ 1000 := by rw [ix2_eq]; exact (p3 j hj).2
  have q1 : x.LM a.P (ix2 j) ≤ (x.U (x.LQ a.P (ix2 j))).length := by rw [ix2_eq]; exact (p3 j hj).1
  refine findLoopX (pic := fun i _ => s43i x a w j i (Wk4 x a.P j i)) (e := isnt2E x (x.LQ a.P (ix2 j)) w) (N := x.LM a.P (ix2 j)) (id := 2) (QX := fun s => s = s43i x a w j (x.LM a.P (ix2 j)) (VX4 (Wk4 x a.P j (x.LM a.P (ix2 j))))) (QD := fun ex s => ex = .ret ∧ ∃ k, k < x.LM a.P (ix2 j) ∧ (∀ i, i < k → isnt2E x (x.LQ a.P (ix2 j)) w i = true) ∧ isnt2E x (x.LQ a.P (ix2 j)) w k = false ∧ s = Xh43 x a w j k) (fun i v hv hi he => ?_) (fun i v hv hi hp he => ?_) (fun v hv => ?_) vU_dead
  · refine (StepG.stdT (s0 := H43 x a w) (rd := rd) pg KN_ok (kRi rd x a w j i (Wk4 x a.P j i)) ⟨⟨⟨⟨⟨trivial, decide_eq_true (by unfold nI; omega)⟩, by unfold nI; omega⟩, by omega⟩, (by unfold isnt2E at he; simpa using he)⟩, (by rw [IntKind.wrap_i64]; unfold nI; omega)⟩ (show 7 ≤ 7 by decide) (tm43i_dead (w := w) (VR4_dead (Wk4_dead i)) lvR4) (h43_ok x a w) rfl (okR4 rd x a w j (i + 1) (Wk4 x a.P j i))).mono ?_
    rintro ex s ⟨rfl, rfl⟩
    exact ⟨rfl, vU, vU_dead, rfl⟩
  · refine (StepG.stdT (s0 := H43 x a w) (rd := rd) pg KN_ok (kHi rd x a w j i (Wk4 x a.P j i)) ⟨⟨⟨⟨trivial, decide_eq_true (by unfold nI; omega)⟩, by unfold nI; omega⟩, by omega⟩, (by unfold isnt2E at he; simpa using he)⟩ (show 7 ≤ 7 by decide) (tm43i_dead (w := w) (VH4_dead (Wk4_dead i)) lvH4) (h43h_ok x a w) rfl (okH4 rd x a w j i (Wk4 x a.P j i))).mono ?_
    rintro ex s ⟨rfl, rfl⟩
    exact ⟨(by intro h; cases h), rfl, i, hi, hp, he, rfl⟩
  · refine (StepG.stdT (s0 := H43 x a w) (rd := rd) pg KN_ok (kXi rd x a w j _ (Wk4 x a.P j _)) ⟨trivial, decide_eq_false (by unfold nI; omega)⟩ (show 7 ≤ 7 by decide) (tm43i_dead (w := w) (VX4_dead (Wk4_dead _)) lvX4) (h43_ok x a w) rfl (okX4 rd x a w j _ (Wk4 x a.P j _))).mono ?_
    rintro ex s ⟨rfl, rfl⟩
    exact ⟨rfl, rfl⟩
theorem outer43 {x : MX} {a : AV} {w : Int} {rd : Option Nat} (hA : legOk x a.P a.n) {j : Nat} (hj : j < a.n) : StepG Tryz.prog rd (H43 x a w) l43 (s43 x a w j (Wo4 x a.P j)) fun ex s => (ex = .normal ∧ none2E x a.P w j = true ∧ s = s43 x a w (j + 1) (Wo4 x a.P (j + 1))) ∨ (ex = .ret ∧ none2E x a.P w j = false ∧ ∃ k, k < x.LM a.P (ix2 j) ∧ (∀ i, i < k → isnt2E x (x.LQ a.P (ix2 j)) w i = true) ∧ isnt2E x (x.LQ a.P (ix2 j)) w k = false ∧ s = Xh43 x a w j k) := by
  have hA2 := hA
  obtain ⟨p1, p2, p3⟩ := hA
  refine StepG.downs pg KN_ok (kDo rd x a w j (Wo4 x a.P j)) ⟨⟨⟨trivial, decide_eq_true (by unfold nI; omega)⟩, by unfold nI; omega⟩, by omega⟩ (tm43i_dead (w := w) (VD4_dead (Wo4_dead j)) lvD4) (h43_ok x a w) rfl (okD4 rd x a w j (Wo4 x a.P j)) ?_
  rw [up43]
  refine (inner43 hA2 hj).mono ?_
  rintro ex s (⟨rfl, ha, rfl⟩ | ⟨_, rfl, k, hk, hp, he, rfl⟩)
  · refine .inl ⟨by simp [blockOut], (StepG.stdT (s0 := H43 x a w) (rd := rd) pg KN_ok (kNo rd x a w j _ (VX4 (Wk4 x a.P j _))) ⟨trivial, by rw [IntKind.wrap_i64]; unfold nI; omega⟩ (show 7 ≤ 7 by decide) (tm43_dead (w := w) (VN4_dead (VX4_dead (Wk4_dead _))) lvN4) (h43_ok x a w) rfl (okN4 rd x a w (j + 1) (VX4 (Wk4 x a.P j _)))).mono ?_⟩
    rintro ex s ⟨rfl, rfl⟩
    exact .inl ⟨rfl, allB_all ha, rfl⟩
  · exact .inr ⟨by simp [blockOut], .inr ⟨by simp [blockOut], allB_no he hk, k, hk, hp, he, rfl⟩⟩
theorem loop43 {x : MX} {a : AV} {w : Int} {rd : Option Nat} (hA : legOk x a.P a.n) : StepG Tryz.prog rd (H43 x a w) (.loop l43) (H43 x a w) fun ex s => (ex = .exit 0 ∧ (∀ j, j < a.n → none2E x a.P w j = true) ∧ s = Xn43 x a w) ∨ (ex ≠ .normal ∧ ex = .ret ∧ ∃ j k, At4 x a w j k ∧ s = Xh43 x a w j k) := by
  refine findLoopX (pic := fun i _ => s43 x a w i (Wo4 x a.P i)) (e := none2E x a.P w) (N := a.n) (id := 0) (QX := fun s => s = Xn43 x a w) (QD := fun ex s => ex = .ret ∧ ∃ j k, At4 x a w j k ∧ s = Xh43 x a w j k) (fun i v hv hi he => ?_) (fun i v hv hi hp he => ?_) (fun v hv => ?_) vU_dead
  · refine (outer43 hA hi).mono ?_
    rintro ex s (⟨rfl, _, rfl⟩ | ⟨rfl, h1, _⟩)
    · exact ⟨rfl, vU, vU_dead, rfl⟩
    · rw [he] at h1; cases h1
  · refine (outer43 hA hi).mono ?_
    rintro ex s (⟨rfl, h1, _⟩ | ⟨rfl, _, k, h1, h2, h3, rfl⟩)
    · rw [he] at h1; cases h1
    · exact ⟨(by intro h; cases h), rfl, i, k, ⟨hi, hp, h1, h2, h3⟩, rfl⟩
  · obtain ⟨p1, p2, p3⟩ := hA
    refine (StepG.stdT (s0 := H43 x a w) (rd := rd) pg KN_ok (kXo rd x a w a.n (Wo4 x a.P a.n)) ⟨trivial, decide_eq_false (by unfold nI; omega)⟩ (show 7 ≤ 7 by decide) (tm43_dead (w := w) (VY4_dead (Wo4_dead a.n)) lvY4) (h43_ok x a w) rfl (okY4 rd x a w a.n (Wo4 x a.P a.n))).mono ?_
    rintro ex s ⟨rfl, rfl⟩
    exact ⟨rfl, rfl⟩
end
end ob
end Go.Proofs.YthpoeegoankpoaaGreat
namespace Go.Proofs.YthpoeegoankpoaaGreat
open Go.ChangeShapes Go.WideShapes Go.ChangeAt Go.RowKit Go.Cln
namespace ob
set_option linter.unusedVariables false
noncomputable section
theorem first_no {e : Nat → Bool} {n k j : Nat} (hk : k < n) (hp : ∀ j, j < k → e j = true) (he : e k = false) (hj : j < n) (hp2 : ∀ i, i < j → e i = true) (he2 : e j = false) : j = k := by
  rcases Nat.lt_trichotomy j k with h | h | h
  · rw [hp j h] at he2; cases he2
  · exact h
  · rw [hp2 k h] at he; cases he
noncomputable def askH (tpl : List Value) (keep : List Nat) (X : St) (e : Exit) (f : FuncId) (c : Code) (s : St) : Option Ask3 := if f == 98 then some ⟨tpl, keep, e, fun _ => X⟩ else none
noncomputable def KH (tpl : List Value) (keep : List Nat) (X : St) (e : Exit) : Given := { Given.asking3 Given.nothing Tryz.prog (askH tpl keep X e) with fits := true }
theorem KH_ok (tpl : List Value) (keep : List Nat) (X : St) (e : Exit) : GivenOk Tryz.prog (KH tpl keep X e) := frames_fits ((GivenOk.nothing _).asking3 (askH tpl keep X e)) true
noncomputable abbrev tpl43 : List Value := List.replicate 28 undef
noncomputable abbrev kp43 : List Nat := [0, 1, 2, 3, 4, 5, 6]
theorem k43h (x : MX) (a : AV) (w : Int) (j k : Nat) : ((mk Tryz.prog (KH tpl43 kp43 (Xh43 x a w j k) .ret) 200).call 43 [a.v, .int .u32 w] (smSt 1 [some (.fam x.F)] [])).map (fun r => (r.1, r.2.obl)) = some (.bool true, True ∧ ∀ rd, CodeOk Tryz.prog rd (.loop l43) (H43 x a w) .ret (Xh43 x a w j k).bare) := by kernel_rfl
theorem k43n (x : MX) (a : AV) (w : Int) : ((mk Tryz.prog (KH tpl43 kp43 (Xn43 x a w) (.exit 0)) 200).call 43 [a.v, .int .u32 w] (smSt 1 [some (.fam x.F)] [])).map (fun r => (r.1, r.2.obl)) = some (.bool false, True ∧ ∀ rd, CodeOk Tryz.prog rd (.loop l43) (H43 x a w) (.exit 0) (Xn43 x a w).bare) := by kernel_rfl
theorem H43_fam {x : MX} {a : AV} {w : Int} : (H43 x a w).heap.get 0 = some (.fam x.F) := by kernel_rfl
theorem Xh43_fam {x : MX} {a : AV} {w : Int} {j k : Nat} : (Xh43 x a w j k).heap.get 0 = some (.fam x.F) := by kernel_rfl
theorem Xn43_fam {x : MX} {a : AV} {w : Int} : (Xn43 x a w).heap.get 0 = some (.fam x.F) := by kernel_rfl
theorem ex_first {e : Nat → Bool} {n : Nat} (h : allB e n = false) : ∃ k, k < n ∧ (∀ j, j < k → e j = true) ∧ e k = false := by
  induction n with
  | zero => cases h
  | succ n ih =>
    cases h3 : allB e n with
    | false =>
      obtain ⟨k, h4, h5⟩ := ih h3
      exact ⟨k, by omega, h5⟩
    | true =>
      simp only [allB, h3, Bool.true_and] at h
      exact ⟨n, by omega, allB_iff.1 h3, h⟩
theorem hasAny2 {x : MX} {P n : Nat} {w : Int} : hasAnyE x P n w = !allB (none2E x P w) n := by
  unfold hasAnyE
  rw [show noneE x P w = none2E x P w from funext fun i => none2_eq.symm]
theorem rd43a {x : MX} {a : AV} {w : Int} (hA : legOk x a.P a.n) : Rd Tryz.prog x.F 43 [a.v, .int .u32 w] (.bool (hasAnyE x a.P a.n w)) := by
  rw [hasAny2]
  cases h : allB (none2E x a.P w) a.n with
  | true =>
    refine Rd.run pg (KH_ok _ _ _ _) (k43n x a w) ⟨trivial, fun rd => CodeOk.of_stepG H43_fam ((loop43 hA).mono ?_)⟩ rfl
    rintro ex s (⟨rfl, _, rfl⟩ | ⟨_, rfl, j, k, ⟨h1, h2, h3, h4, h5⟩, _⟩)
    · exact ⟨rfl, rfl, rfl, rfl, rfl, rfl, rfl, ⟨_, Xn43_fam⟩, Xn43_fam.trans H43_fam.symm, fun _ _ => rfl⟩
    · have := allB_iff.1 h j h1
      rw [show none2E x a.P w j = false from allB_no h5 h3] at this
      cases this
  | false =>
    obtain ⟨j, h1, h2, h3⟩ := ex_first h
    obtain ⟨k, h4, h5, h6⟩ := ex_first (show allB (isnt2E x (x.LQ a.P (ix2 j)) w) (x.LM a.P (ix2 j)) = false from h3)
    refine Rd.run pg (KH_ok _ _ _ _) (k43h x a w j k) ⟨trivial, fun rd => CodeOk.of_stepG H43_fam ((loop43 hA).mono ?_)⟩ rfl
    rintro ex s (⟨rfl, g1, _⟩ | ⟨_, rfl, j', k', ⟨g1, g2, g3, g4, g5⟩, rfl⟩)
    · rw [g1 j h1] at h3; cases h3
    · obtain rfl := first_no h1 h2 h3 g1 g2 (show none2E x a.P w j' = false from allB_no g5 g3)
      obtain rfl := first_no h4 h5 h6 g3 g4 g5
      exact ⟨rfl, rfl, rfl, rfl, rfl, rfl, rfl, ⟨_, Xh43_fam⟩, Xh43_fam.trans H43_fam.symm, fun _ _ => rfl⟩
end
end ob
end Go.Proofs.YthpoeegoankpoaaGreat
namespace Go.Proofs.YthpoeegoankpoaaGreat
open Go.ChangeShapes Go.WideShapes Go.ChangeAt Go.RowKit Go.Cln
namespace ob
set_option linter.unusedVariables false
noncomputable section
theorem rd43 {x : MX} {a : AV} {w : Int} (hA : legOk x a.P a.n) : Rd Tryz.prog x.F 43 [a.v, .int .u32 w] (.bool (hasAnyE x a.P a.n w)) := rd43a hA
end
end ob
end Go.Proofs.YthpoeegoankpoaaGreat
namespace Go.Proofs.YthpoeegoankpoaaGreat
open Go.ChangeShapes Go.WideShapes Go.ChangeAt Go.RowKit Go.Cln
namespace ob
set_option linter.unusedVariables false
noncomputable section
noncomputable def rw30 (x : MX) (args : List Value) : Option (Value × Prop) := match args with
  | [.agg z0] => (avOf z0).bind fun u => some (.int .i64 (errI (attrsE x u)), avOk x u)
  | _ => none
theorem rw30_ok (x : MX) {args : List Value} {r : Value × Prop} (h : rw30 x args = some r) : flat r.1 = true ∧ args.all farV = true ∧ (r.2 → Rd Tryz.prog x.F 30 args r.1) := by
  unfold rw30 at h
  split at h
  · rename_i z0
    rw [Option.bind_eq_some_iff] at h
    obtain ⟨u, hu, h⟩ := h
    cases h
    rw [avOf_eq hu]
    exact ⟨rfl, rfl, fun hp => rd30 hp⟩
  · cases h
noncomputable def rw21 (x : MX) (args : List Value) : Option (Value × Prop) := match args with
  | [.agg z0] => (avOf z0).bind fun u => some (.bool (attrsE x u), avOk x u)
  | _ => none
theorem rw21_ok (x : MX) {args : List Value} {r : Value × Prop} (h : rw21 x args = some r) : flat r.1 = true ∧ args.all farV = true ∧ (r.2 → Rd Tryz.prog x.F 21 args r.1) := by
  unfold rw21 at h
  split at h
  · rename_i z0
    rw [Option.bind_eq_some_iff] at h
    obtain ⟨u, hu, h⟩ := h
    cases h
    rw [avOf_eq hu]
    exact ⟨rfl, rfl, fun hp => rd21 hp⟩
  · cases h
noncomputable def rw43 (x : MX) (args : List Value) : Option (Value × Prop) := match args with
  | [.agg z0, .int .u32 w] => (avOf z0).bind fun u => some (.bool (hasAnyE x u.P u.n w), legOk x u.P u.n)
  | _ => none
theorem rw43_ok (x : MX) {args : List Value} {r : Value × Prop} (h : rw43 x args = some r) : flat r.1 = true ∧ args.all farV = true ∧ (r.2 → Rd Tryz.prog x.F 43 args r.1) := by
  unfold rw43 at h
  split at h
  · rename_i z0 w
    rw [Option.bind_eq_some_iff] at h
    obtain ⟨u, hu, h⟩ := h
    cases h
    rw [avOf_eq hu]
    exact ⟨rfl, rfl, fun hp => rd43 hp⟩
  · cases h
noncomputable def rw23 (x : MX) (args : List Value) : Option (Value × Prop) := match args with
  | [.agg z0, .int .u32 w] => (avOf z0).bind fun u => some (.bool (hasAnyE x u.P u.n w), legOk x u.P u.n)
  | _ => none
theorem rw23_ok (x : MX) {args : List Value} {r : Value × Prop} (h : rw23 x args = some r) : flat r.1 = true ∧ args.all farV = true ∧ (r.2 → Rd Tryz.prog x.F 23 args r.1) := by
  unfold rw23 at h
  split at h
  · rename_i z0 w
    rw [Option.bind_eq_some_iff] at h
    obtain ⟨u, hu, h⟩ := h
    cases h
    rw [avOf_eq hu]
    exact ⟨rfl, rfl, fun hp => rd23 hp⟩
  · cases h
noncomputable def rw12 (x : MX) (args : List Value) : Option (Value × Prop) := match args with
  | [.agg z0] => (poOf z0).bind fun u => some (.int .i64 (chkE x u.1 u.2.1), rulesOk x u.1 u.2.1)
  | _ => none
theorem rw12_ok (x : MX) {args : List Value} {r : Value × Prop} (h : rw12 x args = some r) : flat r.1 = true ∧ args.all farV = true ∧ (r.2 → Rd Tryz.prog x.F 12 args r.1) := by
  unfold rw12 at h
  split at h
  · rename_i z0
    rw [Option.bind_eq_some_iff] at h
    obtain ⟨u, hu, h⟩ := h
    cases h
    rw [poOf_eq hu]
    exact ⟨rfl, rfl, fun hp => rd12 (p := ⟨u.1, u.2.1, u.2.2.1, u.2.2.2⟩) hp⟩
  · cases h
noncomputable def rw13 (x : MX) (args : List Value) : Option (Value × Prop) := match args with
  | [.agg z0] => (poOf z0).bind fun u => some (.int .i64 (chkE x u.1 u.2.1), rulesOk x u.1 u.2.1)
  | _ => none
theorem rw13_ok (x : MX) {args : List Value} {r : Value × Prop} (h : rw13 x args = some r) : flat r.1 = true ∧ args.all farV = true ∧ (r.2 → Rd Tryz.prog x.F 13 args r.1) := by
  unfold rw13 at h
  split at h
  · rename_i z0
    rw [Option.bind_eq_some_iff] at h
    obtain ⟨u, hu, h⟩ := h
    cases h
    rw [poOf_eq hu]
    exact ⟨rfl, rfl, fun hp => rd13 (p := ⟨u.1, u.2.1, u.2.2.1, u.2.2.2⟩) hp⟩
  · cases h
noncomputable def TF (x : MX) (f : FuncId) (args : List Value) : Option (Value × Prop) := if f == 30 then rw30 x args else if f == 21 then rw21 x args else if f == 43 then rw43 x args else if f == 23 then rw23 x args else if f == 12 then rw12 x args else if f == 13 then rw13 x args else TR4 x f args
theorem TF_ok (x : MX) (f : FuncId) (args : List Value) (r : Value × Prop) (h : TF x f args = some r) : flat r.1 = true ∧ args.all farV = true ∧ (r.2 → Rd Tryz.prog x.F f args r.1) := by
  unfold TF at h
  by_cases e30 : (f == 30) = true
  · have hf : f = 30 := by simpa using e30
    subst hf
    exact rw30_ok x h
  rw [if_neg e30] at h
  by_cases e21 : (f == 21) = true
  · have hf : f = 21 := by simpa using e21
    subst hf
    exact rw21_ok x h
  rw [if_neg e21] at h
  by_cases e43 : (f == 43) = true
  · have hf : f = 43 := by simpa using e43
    subst hf
    exact rw43_ok x h
  rw [if_neg e43] at h
  by_cases e23 : (f == 23) = true
  · have hf : f = 23 := by simpa using e23
    subst hf
    exact rw23_ok x h
  rw [if_neg e23] at h
  by_cases e12 : (f == 12) = true
  · have hf : f = 12 := by simpa using e12
    subst hf
    exact rw12_ok x h
  rw [if_neg e12] at h
  by_cases e13 : (f == 13) = true
  · have hf : f = 13 := by simpa using e13
    subst hf
    exact rw13_ok x h
  rw [if_neg e13] at h
  exact TR4_ok x f args r h
noncomputable def KF (x : MX) : Given := { Given.rds Given.nothing x.F (TF x) with fits := true }
theorem KF_ok (x : MX) : GivenOk Tryz.prog (KF x) := frames_fits ((GivenOk.nothing _).rds (TF_ok x)) true
noncomputable def fitsE (x : MX) (r : RV) (a l : Int) (y : AV) : Bool := ruleQ r && attrsE x y && coversE r.A r.B a l && (decide (r.C ≤ l) && decide (l ≤ r.D)) && ((!r.E) || hasE x y.Q y.k r.G) && ((r.H == 0) || hasAnyE x y.P y.n r.H)
end
end ob
end Go.Proofs.YthpoeegoankpoaaGreat
