import Derived.Test.YtmekepomgofiaaaEvZ
set_option linter.all false
namespace Go.Ev
set_option linter.all false
def rg_7_0 : List AOper := [⟨(some 11), .load (some 4) (.tmp 3), none, 0, [], true, []⟩, ⟨(some 12), .mov (.tmp 1), none, 0, [], true, []⟩, ⟨(some 13), .call 12 [(.tmp 11), (.tmp 12)], none, 0, [], true, []⟩, ⟨(some 14), .mov (.tmp 13), none, 1, [], true, []⟩, ⟨(some 15), .faddr 0 (.tmp 5), (some ((some 14), false)), 1, [], true, []⟩, ⟨(some 16), .load none (.tmp 15), (some ((some 14), false)), 1, [], true, []⟩, ⟨(some 17), .len false (.tmp 16), (some ((some 14), false)), 1, [], true, []⟩, ⟨(some 18), .bin false .gtr (.tmp 17) (.const (.int .i64 20)), (some ((some 14), false)), 1, [], true, []⟩, ⟨(some 19), .pick (.tmp 14) (.const (.bool true)) (.tmp 18), none, 1, [], true, []⟩]
def rg_7_1 : List AOper := [⟨(some 22), .load (some 4) (.tmp 3), none, 0, [3, 4, 6, 7], false, []⟩, ⟨(some 23), .call 14 [(.tmp 22)], none, 1, [3, 4, 6, 7], false, []⟩, ⟨(some 24), .mov (.tmp 1), none, 2, [], true, []⟩, ⟨(some 25), .call 15 [(.tmp 24)], none, 2, [3, 4, 6, 7], false, []⟩, ⟨(some 26), .faddr 0 (.tmp 5), none, 3, [0, 1, 2, 6, 7], false, []⟩, ⟨(some 27), .load none (.tmp 26), none, 4, [0, 1, 2, 6, 7], false, []⟩, ⟨(some 28), .call 16 [(.tmp 27)], none, 5, [6, 7], false, []⟩, ⟨(some 29), .faddr 1 (.tmp 5), none, 6, [0, 1, 2, 3, 4, 5], false, []⟩, ⟨(some 30), .load none (.tmp 29), none, 7, [0, 1, 2, 3, 4, 5], false, []⟩, ⟨(some 31), .call 42 [(.tmp 23), (.tmp 25), (.tmp 28), (.tmp 30)], none, 8, [], true, []⟩, ⟨(some 21), .mov (.tmp 31), none, 9, [], true, []⟩, ⟨(some 32), .extract (.tmp 21) 0, none, 9, [], true, []⟩, ⟨(some 33), .extract (.tmp 21) 1, none, 9, [], true, []⟩, ⟨(some 7), .mov (.tmp 32), none, 9, [], true, []⟩, ⟨(some 8), .mov (.tmp 33), none, 9, [], true, []⟩]
def rg_7_2 : List AOper := [⟨(some 39), .mov (.tmp 9), none, 0, [], true, []⟩, ⟨(some 40), .bin false .eql (.tmp 39) (.const (.int .i64 0)), none, 0, [], true, []⟩, ⟨(some 41), .mov (.tmp 40), none, 0, [], true, []⟩, ⟨(some 42), .faddr 1 (.tmp 5), (some ((some 41), true)), 0, [], true, []⟩, ⟨(some 43), .load none (.tmp 42), (some ((some 41), true)), 0, [], true, []⟩, ⟨(some 44), .bin false .lss (.tmp 43) (.const (.int .i64 0)), (some ((some 41), true)), 0, [], true, []⟩, ⟨(some 45), .mov (.tmp 44), (some ((some 41), true)), 0, [], true, []⟩, ⟨(some 46), .faddr 1 (.tmp 5), (some ((some 45), false)), 0, [], true, []⟩, ⟨(some 47), .load none (.tmp 46), (some ((some 45), false)), 0, [], true, []⟩, ⟨(some 48), .bin false .gtr (.tmp 47) (.const (.int .i64 20)), (some ((some 45), false)), 0, [], true, []⟩, ⟨(some 49), .pick (.tmp 45) (.const (.bool true)) (.tmp 48), (some ((some 41), true)), 0, [], true, []⟩, ⟨(some 50), .pick (.tmp 41) (.tmp 49) (.const (.bool false)), none, 0, [], true, []⟩]
def rg_7_3 : List AOper := [⟨(some 53), .mov (.tmp 8), none, 0, [], true, []⟩, ⟨(some 54), .mov (.tmp 9), none, 0, [], true, []⟩, ⟨(some 55), .bin false .eql (.tmp 53) (.tmp 54), none, 0, [], true, []⟩, ⟨(some 56), .mov (.tmp 55), none, 0, [], true, []⟩, ⟨(some 57), .mov (.tmp 7), (some ((some 56), true)), 0, [], true, []⟩, ⟨(some 58), .len false (.tmp 57), (some ((some 56), true)), 0, [], true, []⟩, ⟨(some 59), .bin false .eql (.tmp 58) (.const (.int .i64 0)), (some ((some 56), true)), 0, [], true, []⟩, ⟨(some 60), .pick (.tmp 56) (.tmp 59) (.const (.bool false)), none, 0, [], true, []⟩, ⟨(some 61), .mov (.tmp 60), none, 0, [], true, []⟩, ⟨(some 62), .call 13 [], (some ((some 61), true)), 0, [], true, []⟩, ⟨(some 63), .pick (.tmp 61) (.tmp 62) (.const (.bool false)), none, 1, [], true, []⟩, ⟨(some 6), .mov (.tmp 63), none, 1, [], true, []⟩]
def rg_7_4 : List AOper := [⟨(some 64), .mov (.tmp 8), none, 0, [], true, []⟩, ⟨(some 65), .bin false .neq (.tmp 64) (.const (.int .i64 0)), none, 0, [], true, []⟩, ⟨(some 66), .mov (.tmp 65), none, 0, [], true, []⟩, ⟨(some 67), .mov (.tmp 7), (some ((some 66), false)), 0, [], true, []⟩, ⟨(some 68), .len false (.tmp 67), (some ((some 66), false)), 0, [], true, []⟩, ⟨(some 69), .faddr 2 (.tmp 3), (some ((some 66), false)), 0, [], true, []⟩, ⟨(some 70), .load none (.tmp 69), (some ((some 66), false)), 0, [], true, []⟩, ⟨(some 71), .len false (.tmp 70), (some ((some 66), false)), 0, [], true, []⟩, ⟨(some 72), .bin false .neq (.tmp 68) (.tmp 71), (some ((some 66), false)), 0, [], true, []⟩, ⟨(some 73), .pick (.tmp 66) (.const (.bool true)) (.tmp 72), none, 0, [], true, []⟩]
def rg_7_5 : List AOper := [⟨(some 80), .mov (.tmp 7), none, 0, [], true, []⟩, ⟨(some 81), .mov (.tmp 10), none, 0, [], true, []⟩, ⟨(some 82), .iaddr 1 (.tmp 80) (.tmp 81), none, 0, [2, 3, 4, 5, 6, 7], false, []⟩, ⟨(some 83), .load none (.tmp 82), none, 1, [2, 3, 4, 5, 6, 7], false, []⟩, ⟨(some 84), .load (some 4) (.tmp 3), none, 2, [0, 1, 3, 4, 5, 6], false, []⟩, ⟨(some 85), .mov (.tmp 1), none, 3, [], true, []⟩, ⟨(some 86), .faddr 0 (.tmp 5), none, 3, [0, 1, 2, 5, 6], false, []⟩, ⟨(some 87), .load none (.tmp 86), none, 4, [0, 1, 2, 5, 6], false, []⟩, ⟨(some 88), .faddr 1 (.tmp 5), none, 5, [0, 1, 2, 3, 4], false, []⟩, ⟨(some 89), .load none (.tmp 88), none, 6, [0, 1, 2, 3, 4], false, []⟩, ⟨(some 90), .mov (.tmp 10), none, 7, [], true, []⟩, ⟨(some 91), .call 43 [(.tmp 84), (.tmp 85), (.tmp 87), (.tmp 89), (.tmp 90)], none, 7, [0, 1], false, []⟩, ⟨(some 92), .bin false .neq (.tmp 83) (.tmp 91), none, 8, [], true, []⟩]
def lp_7_6 : ACode := (.seq (.seq (.region [⟨(some 74), .mov (.tmp 10), none, 0, [], true, []⟩, ⟨(some 75), .mov (.tmp 7), none, 0, [], true, []⟩, ⟨(some 76), .len false (.tmp 75), none, 0, [], true, []⟩, ⟨(some 77), .bin false .lss (.tmp 74) (.tmp 76), none, 0, [], true, []⟩] 0)
 (.cond (.tmp 77)
 .skip
 (.exit 0)))
 (.seq (.block 1 (.seq (.region rg_7_5 8)
 (.cond (.tmp 92)
 (.seq (.region [⟨(some 6), .mov (.const (.bool false)), none, 0, [], true, []⟩] 0)
 .ret)
 .skip)))
 (.region [⟨(some 78), .mov (.tmp 10), none, 0, [], true, []⟩, ⟨(some 79), .bin false .add (.tmp 78) (.const (.int .i64 1)), none, 0, [], true, []⟩, ⟨(some 10), .mov (.tmp 79), none, 0, [], true, []⟩] 0)))
def rs_7_7 : ACode := (.seq (.region [⟨(some 93), .call 13 [], none, 0, [], true, []⟩, ⟨(some 6), .mov (.tmp 93), none, 1, [], true, []⟩] 1)
 .ret)
def af_7 : AFun := ⟨94, [.inl 6], (.seq (.region [⟨(some 3), .box 4 (.tmp 0), none, 0, [], true, []⟩, ⟨(some 5), .box 2 (.tmp 2), none, 1, [], true, []⟩, ⟨(some 6), .mov (.const (.bool false)), none, 2, [], true, []⟩] 2)
 (.seq (.seq (.region rg_7_0 1)
 (.cond (.tmp 19)
 (.seq (.region [⟨(some 20), .call 13 [], none, 0, [], true, []⟩, ⟨(some 6), .mov (.tmp 20), none, 1, [], true, []⟩] 1)
 .ret)
 .skip))
 (.seq (.region rg_7_1 9)
 (.seq (.region [⟨(some 34), .load (some 4) (.tmp 3), none, 0, [], true, []⟩, ⟨(some 35), .mov (.tmp 1), none, 0, [], true, []⟩, ⟨(some 36), .faddr 0 (.tmp 5), none, 0, [], true, []⟩, ⟨(some 37), .load none (.tmp 36), none, 0, [], true, []⟩, ⟨(some 38), .call 26 [(.tmp 34), (.tmp 35), (.tmp 37)], none, 0, [], true, []⟩, ⟨(some 9), .mov (.tmp 38), none, 1, [], true, []⟩] 1)
 (.seq (.seq (.region rg_7_2 0)
 (.cond (.tmp 50)
 (.region [⟨(some 9), .mov (.const (.int .i64 3)), none, 0, [], true, []⟩] 0)
 .skip))
 (.seq (.seq (.region [⟨(some 51), .mov (.tmp 9), none, 0, [], true, []⟩, ⟨(some 52), .bin false .neq (.tmp 51) (.const (.int .i64 0)), none, 0, [], true, []⟩] 0)
 (.cond (.tmp 52)
 (.seq (.region rg_7_3 1)
 .ret)
 .skip))
 (.seq (.seq (.region rg_7_4 0)
 (.cond (.tmp 73)
 (.seq (.region [⟨(some 6), .mov (.const (.bool false)), none, 0, [], true, []⟩] 0)
 .ret)
 .skip))
 (.seq (.seq (.region [⟨(some 10), .mov (.const (.int .i64 0)), none, 0, [], true, []⟩] 0)
 (.block 0 (.loop lp_7_6)))
 rs_7_7))))))))⟩
def rg_12_0 : List AOper := [⟨(some 5), .faddr 2 (.tmp 2), none, 0, [], true, []⟩, ⟨(some 6), .load none (.tmp 5), none, 0, [], true, []⟩, ⟨(some 7), .len false (.tmp 6), none, 0, [], true, []⟩, ⟨(some 8), .bin false .gtr (.tmp 7) (.const (.int .i64 30)), none, 0, [], true, []⟩, ⟨(some 9), .mov (.tmp 8), none, 0, [], true, []⟩, ⟨(some 10), .faddr 2 (.tmp 2), (some ((some 9), true)), 0, [], true, []⟩, ⟨(some 11), .load none (.tmp 10), (some ((some 9), true)), 0, [], true, []⟩, ⟨(some 12), .len false (.tmp 11), (some ((some 9), true)), 0, [], true, []⟩, ⟨(some 13), .bin false .leq (.tmp 12) (.const (.int .i64 96)), (some ((some 9), true)), 0, [], true, []⟩, ⟨(some 14), .pick (.tmp 9) (.tmp 13) (.const (.bool false)), none, 0, [], true, []⟩, ⟨(some 15), .mov (.tmp 14), none, 0, [], true, []⟩, ⟨(some 16), .faddr 2 (.tmp 2), (some ((some 15), false)), 0, [], true, []⟩, ⟨(some 17), .load none (.tmp 16), (some ((some 15), false)), 0, [], true, []⟩, ⟨(some 18), .len false (.tmp 17), (some ((some 15), false)), 0, [], true, []⟩, ⟨(some 19), .bin false .gtr (.tmp 18) (.const (.int .i64 110)), (some ((some 15), false)), 0, [], true, []⟩, ⟨(some 20), .pick (.tmp 15) (.const (.bool true)) (.tmp 19), none, 0, [], true, []⟩, ⟨(some 21), .mov (.tmp 20), none, 0, [], true, []⟩, ⟨(some 22), .faddr 3 (.tmp 2), (some ((some 21), false)), 0, [], true, []⟩, ⟨(some 23), .load none (.tmp 22), (some ((some 21), false)), 0, [], true, []⟩, ⟨(some 24), .len false (.tmp 23), (some ((some 21), false)), 0, [], true, []⟩, ⟨(some 25), .bin false .gtr (.tmp 24) (.const (.int .i64 110)), (some ((some 21), false)), 0, [], true, []⟩, ⟨(some 26), .pick (.tmp 21) (.const (.bool true)) (.tmp 25), none, 0, [], true, []⟩, ⟨(some 27), .mov (.tmp 26), none, 0, [], true, []⟩, ⟨(some 28), .mov (.tmp 1), (some ((some 27), false)), 0, [], true, []⟩, ⟨(some 29), .len false (.tmp 28), (some ((some 27), false)), 0, [], true, []⟩, ⟨(some 30), .bin false .gtr (.tmp 29) (.const (.int .i64 18)), (some ((some 27), false)), 0, [], true, []⟩, ⟨(some 31), .pick (.tmp 27) (.const (.bool true)) (.tmp 30), none, 0, [], true, []⟩, ⟨(some 4), .mov (.tmp 31), none, 0, [], true, []⟩]
def af_12 : AFun := ⟨32, [.inl 4], (.seq (.region [⟨(some 2), .box 4 (.tmp 0), none, 0, [], true, []⟩, ⟨(some 4), .mov (.const (.bool false)), none, 1, [], true, []⟩] 1)
 (.seq (.region rg_12_0 0)
 .ret))⟩
def rg_13_0 : List AOper := [⟨(some 16), .load (some 4) (.tmp 1), none, 0, [], true, []⟩, ⟨(some 17), .mov (.tmp 2), none, 0, [], true, []⟩, ⟨(some 18), .call 33 [(.tmp 16), (.tmp 17)], none, 0, [], true, []⟩, ⟨(some 15), .mov (.tmp 18), none, 1, [], true, []⟩, ⟨(some 19), .extract (.tmp 15) 0, none, 1, [], true, []⟩, ⟨(some 20), .extract (.tmp 15) 1, none, 1, [], true, []⟩, ⟨(some 21), .extract (.tmp 15) 2, none, 1, [], true, []⟩, ⟨(some 3), .mov (.tmp 19), none, 1, [], true, []⟩, ⟨(some 4), .mov (.tmp 20), none, 1, [], true, []⟩, ⟨(some 5), .mov (.tmp 21), none, 1, [], true, []⟩]
def rg_13_1 : List AOper := [⟨(some 23), .load (some 4) (.tmp 1), none, 0, [], true, []⟩, ⟨(some 24), .mov (.tmp 2), none, 0, [], true, []⟩, ⟨(some 25), .bslice 1 2 [(.val (.int .i64 0))] [(0, (.const (.int .i64 1))), (1, (.const (.int .i64 3)))], none, 0, [], true, []⟩, ⟨(some 26), .call 21 [(.tmp 23), (.tmp 24), (.tmp 25)], none, 1, [], true, []⟩, ⟨(some 22), .mov (.tmp 26), none, 2, [], true, []⟩, ⟨(some 27), .extract (.tmp 22) 0, none, 2, [], true, []⟩, ⟨(some 28), .extract (.tmp 22) 1, none, 2, [], true, []⟩, ⟨(some 6), .zero [(.val (.int .u8 0)), (.val (.int .i64 0)), (.val (.int .i64 0)), (.val (.int .i64 0))], none, 2, [], true, []⟩, ⟨none, .store 4 (.tmp 6) (.tmp 27), none, 3, [], true, []⟩, ⟨(some 7), .mov (.tmp 28), none, 3, [], true, []⟩]
def rg_13_2 : List AOper := [⟨(some 29), .mov (.tmp 5), none, 0, [], true, []⟩, ⟨(some 30), .bin false .neq (.tmp 29) (.const (.int .i64 0)), none, 0, [], true, []⟩, ⟨(some 31), .mov (.tmp 30), none, 0, [], true, []⟩, ⟨(some 32), .mov (.tmp 3), (some ((some 31), false)), 0, [], true, []⟩, ⟨(some 33), .bslice 1 2 [(.val (.int .i64 0))] [(0, (.const (.int .i64 3))), (1, (.const (.int .i64 1)))], (some ((some 31), false)), 0, [], true, []⟩, ⟨(some 34), .call 25 [(.tmp 32), (.tmp 33)], (some ((some 31), false)), 1, [], true, []⟩, ⟨(some 35), .un .not (.tmp 34), (some ((some 31), false)), 2, [], true, []⟩, ⟨(some 36), .pick (.tmp 31) (.const (.bool true)) (.tmp 35), none, 2, [], true, []⟩, ⟨(some 37), .mov (.tmp 36), none, 2, [], true, []⟩, ⟨(some 38), .mov (.tmp 4), (some ((some 37), false)), 2, [], true, []⟩, ⟨(some 39), .bin false .neq (.tmp 38) (.const (.int .i64 11)), (some ((some 37), false)), 2, [], true, []⟩, ⟨(some 40), .pick (.tmp 37) (.const (.bool true)) (.tmp 39), none, 2, [], true, []⟩, ⟨(some 41), .mov (.tmp 40), none, 2, [], true, []⟩, ⟨(some 42), .mov (.tmp 7), (some ((some 41), false)), 2, [], true, []⟩, ⟨(some 43), .bin false .neq (.tmp 42) (.const (.int .i64 100)), (some ((some 41), false)), 2, [], true, []⟩, ⟨(some 44), .pick (.tmp 41) (.const (.bool true)) (.tmp 43), none, 2, [], true, []⟩, ⟨(some 45), .mov (.tmp 44), none, 2, [], true, []⟩, ⟨(some 46), .load (some 4) (.tmp 6), (some ((some 45), false)), 2, [], true, []⟩, ⟨(some 47), .build [(.val (.int .u8 0)), (.val (.int .i64 0)), (.val (.int .i64 0)), (.val (.int .i64 0))] [(0, 1, (.const (.int .u8 4))), (2, 1, (.const (.int .i64 1)))], (some ((some 45), false)), 2, [], true, []⟩, ⟨(some 48), .eqAgg .neq [0, 0, 0, 0] (.tmp 46) (.tmp 47), (some ((some 45), false)), 2, [], true, []⟩, ⟨(some 49), .pick (.tmp 45) (.const (.bool true)) (.tmp 48), none, 2, [], true, []⟩]
def rg_13_3 : List AOper := [⟨(some 51), .load (some 4) (.tmp 1), none, 0, [], true, []⟩, ⟨(some 52), .mov (.tmp 2), none, 0, [], true, []⟩, ⟨(some 53), .mov (.tmp 3), none, 0, [], true, []⟩, ⟨(some 54), .call 42 [(.tmp 51), (.tmp 52), (.tmp 53), (.const (.int .i64 0))], none, 0, [], true, []⟩, ⟨(some 50), .mov (.tmp 54), none, 1, [], true, []⟩, ⟨(some 55), .extract (.tmp 50) 0, none, 1, [], true, []⟩, ⟨(some 56), .extract (.tmp 50) 1, none, 1, [], true, []⟩, ⟨(some 8), .mov (.tmp 55), none, 1, [], true, []⟩, ⟨(some 5), .mov (.tmp 56), none, 1, [], true, []⟩]
def rg_13_4 : List AOper := [⟨(some 58), .mov (.tmp 10), none, 0, [], true, []⟩, ⟨(some 59), .mov (.tmp 8), none, 0, [], true, []⟩, ⟨(some 60), .len false (.tmp 59), none, 0, [], true, []⟩, ⟨(some 61), .bin false .lss (.tmp 58) (.tmp 60), none, 0, [], true, []⟩, ⟨(some 62), .mov (.tmp 61), none, 0, [], true, []⟩, ⟨(some 63), .mov (.tmp 8), (some ((some 62), true)), 0, [], true, []⟩, ⟨(some 64), .len false (.tmp 63), (some ((some 62), true)), 0, [], true, []⟩, ⟨(some 65), .mov (.tmp 9), (some ((some 62), true)), 0, [], true, []⟩, ⟨(some 66), .len false (.tmp 65), (some ((some 62), true)), 0, [], true, []⟩, ⟨(some 67), .bin false .eql (.tmp 64) (.tmp 66), (some ((some 62), true)), 0, [], true, []⟩, ⟨(some 68), .pick (.tmp 62) (.tmp 67) (.const (.bool false)), none, 0, [], true, []⟩]
def rg_13_5 : List AOper := [⟨(some 71), .mov (.tmp 8), none, 0, [], true, []⟩, ⟨(some 72), .mov (.tmp 10), none, 0, [], true, []⟩, ⟨(some 73), .iaddr 1 (.tmp 71) (.tmp 72), none, 0, [2, 3], false, []⟩, ⟨(some 74), .load none (.tmp 73), none, 1, [2, 3], false, []⟩, ⟨(some 75), .mov (.tmp 9), none, 2, [], true, []⟩, ⟨(some 76), .mov (.tmp 10), none, 2, [], true, []⟩, ⟨(some 77), .iaddr 1 (.tmp 75) (.tmp 76), none, 2, [0, 1], false, []⟩, ⟨(some 78), .load none (.tmp 77), none, 3, [0, 1], false, []⟩, ⟨(some 79), .bin false .neq (.tmp 74) (.tmp 78), none, 4, [], true, []⟩]
def lp_13_6 : ACode := (.seq (.seq (.region rg_13_4 0)
 (.cond (.tmp 68)
 .skip
 (.exit 0)))
 (.seq (.block 1 (.seq (.region rg_13_5 4)
 (.cond (.tmp 79)
 (.seq (.region [⟨(some 0), .mov (.const (.bool false)), none, 0, [], true, []⟩] 0)
 .ret)
 .skip)))
 (.region [⟨(some 69), .mov (.tmp 10), none, 0, [], true, []⟩, ⟨(some 70), .bin false .add (.tmp 69) (.const (.int .i64 1)), none, 0, [], true, []⟩, ⟨(some 10), .mov (.tmp 70), none, 0, [], true, []⟩] 0)))
def rg_13_7 : List AOper := [⟨(some 80), .mov (.tmp 5), none, 0, [], true, []⟩, ⟨(some 81), .bin false .eql (.tmp 80) (.const (.int .i64 0)), none, 0, [], true, []⟩, ⟨(some 82), .mov (.tmp 81), none, 0, [], true, []⟩, ⟨(some 83), .mov (.tmp 8), (some ((some 82), true)), 0, [], true, []⟩, ⟨(some 84), .len false (.tmp 83), (some ((some 82), true)), 0, [], true, []⟩, ⟨(some 85), .mov (.tmp 9), (some ((some 82), true)), 0, [], true, []⟩, ⟨(some 86), .len false (.tmp 85), (some ((some 82), true)), 0, [], true, []⟩, ⟨(some 87), .bin false .eql (.tmp 84) (.tmp 86), (some ((some 82), true)), 0, [], true, []⟩, ⟨(some 88), .pick (.tmp 82) (.tmp 87) (.const (.bool false)), none, 0, [], true, []⟩, ⟨(some 0), .mov (.tmp 88), none, 0, [], true, []⟩]
def rs_13_8 : ACode := (.seq (.region rg_13_7 0)
 .ret)
def af_13 : AFun := ⟨89, [.inl 0], (.seq (.region [⟨(some 0), .mov (.const (.bool false)), none, 0, [], true, []⟩] 0)
 (.seq (.region [⟨(some 12), .call 47 [], none, 0, [], true, []⟩, ⟨(some 11), .mov (.tmp 12), none, 1, [], true, []⟩, ⟨(some 13), .extract (.tmp 11) 0, none, 1, [], true, []⟩, ⟨(some 14), .extract (.tmp 11) 1, none, 1, [], true, []⟩, ⟨(some 1), .zero [(.val (.int .i64 0)), (.val (.int .i64 0)), (.val (.slice none 0 0)), (.val (.slice none 0 0))], none, 1, [], true, []⟩, ⟨none, .store 4 (.tmp 1) (.tmp 13), none, 2, [], true, []⟩, ⟨(some 2), .mov (.tmp 14), none, 2, [], true, []⟩] 2)
 (.seq (.region rg_13_0 1)
 (.seq (.region rg_13_1 3)
 (.seq (.seq (.region rg_13_2 2)
 (.cond (.tmp 49)
 (.seq (.region [⟨(some 0), .mov (.const (.bool false)), none, 0, [], true, []⟩] 0)
 .ret)
 .skip))
 (.seq (.region rg_13_3 1)
 (.seq (.region [⟨(some 57), .bslice 1 6 [(.val (.int .u8 0))] [(0, (.const (.int .u8 3))), (1, (.const (.int .u8 3))), (2, (.const (.int .u8 2))), (3, (.const (.int .u8 1))), (4, (.const (.int .u8 1))), (5, (.const (.int .u8 0)))], none, 0, [], true, []⟩, ⟨(some 9), .mov (.tmp 57), none, 1, [], true, []⟩] 1)
 (.seq (.seq (.region [⟨(some 10), .mov (.const (.int .i64 0)), none, 0, [], true, []⟩] 0)
 (.block 0 (.loop lp_13_6)))
 rs_13_8))))))))⟩
def rg_14_0 : List AOper := [⟨(some 3), .emptyS, none, 0, [1, 2, 4, 5, 6], false, []⟩, ⟨(some 4), .faddr 2 (.tmp 1), none, 1, [0, 4, 5, 6], false, []⟩, ⟨(some 5), .load none (.tmp 4), none, 2, [0, 4, 5, 6], false, []⟩, ⟨(some 6), .append 1 (.tmp 3) (.tmp 5), none, 3, [4, 5, 6], false, []⟩, ⟨(some 7), .emptyS, none, 4, [0, 1, 2, 3, 5, 6, 8], false, []⟩, ⟨(some 8), .faddr 3 (.tmp 1), none, 5, [0, 1, 2, 3, 4], false, []⟩, ⟨(some 9), .load none (.tmp 8), none, 6, [0, 1, 2, 3, 4], false, []⟩, ⟨(some 10), .append 1 (.tmp 7) (.tmp 9), none, 7, [8], false, []⟩, ⟨(some 11), .faddr 2 (.tmp 1), none, 8, [4, 7], false, []⟩, ⟨none, .store 1 (.tmp 11) (.tmp 6), none, 9, [], true, []⟩, ⟨(some 12), .faddr 3 (.tmp 1), none, 10, [], true, []⟩, ⟨none, .store 1 (.tmp 12) (.tmp 10), none, 11, [], true, []⟩]
def af_14 : AFun := ⟨14, [.inr (2, (some 4))], (.seq (.region [⟨(some 1), .box 4 (.tmp 0), none, 0, [], true, []⟩, ⟨(some 2), .zero [(.val (.int .i64 0)), (.val (.int .i64 0)), (.val (.slice none 0 0)), (.val (.slice none 0 0))], none, 1, [], true, []⟩] 2)
 (.seq (.region rg_14_0 12)
 (.seq (.region [⟨(some 13), .load (some 4) (.tmp 1), none, 0, [], true, []⟩, ⟨none, .store 4 (.tmp 2) (.tmp 13), none, 0, [], true, []⟩] 0)
 .ret)))⟩
def af_15 : AFun := ⟨6, [.inl 2], (.seq (.region [⟨(some 2), .mov (.const (.slice none 0 0)), none, 0, [], true, []⟩] 0)
 (.seq (.region [⟨(some 3), .bslice 7 0 [(.val (.int .i64 0)), (.val (.int .i64 0)), (.val (.int .i64 0)), (.val (.int .i64 0)), (.val (.int .i64 0)), (.val (.int .i64 0)), (.val (.int .i64 0))] [], none, 0, [], true, []⟩, ⟨(some 4), .mov (.tmp 0), none, 1, [], true, []⟩, ⟨(some 5), .append 7 (.tmp 3) (.tmp 4), none, 1, [], true, []⟩, ⟨(some 2), .mov (.tmp 5), none, 2, [], true, []⟩] 2)
 .ret))⟩
def af_16 : AFun := ⟨6, [.inl 2], (.seq (.region [⟨(some 2), .mov (.const (.slice none 0 0)), none, 0, [], true, []⟩] 0)
 (.seq (.region [⟨(some 3), .bslice 1 0 [(.val (.int .i64 0))] [], none, 0, [], true, []⟩, ⟨(some 4), .mov (.tmp 0), none, 1, [], true, []⟩, ⟨(some 5), .append 1 (.tmp 3) (.tmp 4), none, 1, [], true, []⟩, ⟨(some 2), .mov (.tmp 5), none, 2, [], true, []⟩] 2)
 .ret))⟩
def rg_42_0 : List AOper := [⟨(some 15), .load (some 4) (.tmp 4), none, 0, [], true, []⟩, ⟨(some 16), .mov (.tmp 1), none, 0, [], true, []⟩, ⟨(some 17), .mov (.tmp 2), none, 0, [], true, []⟩, ⟨(some 18), .call 59 [(.tmp 15), (.tmp 16), (.tmp 17)], none, 0, [], true, []⟩, ⟨(some 14), .mov (.tmp 18), none, 1, [], true, []⟩, ⟨(some 19), .extract (.tmp 14) 0, none, 1, [], true, []⟩, ⟨(some 20), .extract (.tmp 14) 1, none, 1, [], true, []⟩, ⟨(some 10), .mov (.tmp 19), none, 1, [], true, []⟩, ⟨(some 11), .mov (.tmp 20), none, 1, [], true, []⟩]
def rg_42_1 : List AOper := [⟨(some 36), .mov (.tmp 12), none, 0, [], true, []⟩, ⟨(some 37), .mov (.tmp 13), none, 0, [], true, []⟩, ⟨(some 38), .load (some 4) (.tmp 4), none, 0, [], true, []⟩, ⟨(some 39), .mov (.tmp 10), none, 0, [], true, []⟩, ⟨(some 40), .mov (.tmp 3), none, 0, [], true, []⟩, ⟨(some 41), .mov (.tmp 13), none, 0, [], true, []⟩, ⟨(some 42), .call 78 [(.tmp 38), (.tmp 39), (.tmp 40), (.tmp 41)], none, 0, [], true, []⟩, ⟨(some 43), .iaddr 1 (.tmp 36) (.tmp 37), none, 1, [], true, []⟩, ⟨none, .store 1 (.tmp 43) (.tmp 42), none, 1, [], true, []⟩]
def lp_42_2 : ACode := (.seq (.region [⟨(some 34), .bin false .lss (.tmp 33) (.tmp 32), none, 0, [], true, []⟩] 0)
 (.seq (.cond (.tmp 34)
 .skip
 (.exit 0))
 (.seq (.block 1 (.seq (.region [⟨(some 35), .mov (.tmp 33), none, 0, [], true, []⟩, ⟨(some 13), .mov (.tmp 35), none, 0, [], true, []⟩] 0)
 (.region rg_42_1 1)))
 (.region [⟨(some 44), .bin false .add (.tmp 33) (.const (.int .i64 1)), none, 0, [], true, []⟩, ⟨(some 33), .mov (.tmp 44), none, 0, [], true, []⟩] 0))))
def rs_42_3 : ACode := (.seq (.region [⟨(some 45), .mov (.tmp 12), none, 0, [], true, []⟩, ⟨(some 8), .mov (.tmp 45), none, 0, [], true, []⟩, ⟨(some 9), .mov (.const (.int .i64 0)), none, 0, [], true, []⟩] 0)
 .ret)
def af_42 : AFun := ⟨46, [.inl 8, .inl 9], (.seq (.region [⟨(some 4), .box 4 (.tmp 0), none, 0, [], true, []⟩, ⟨(some 8), .mov (.const (.slice none 0 0)), none, 1, [], true, []⟩, ⟨(some 9), .mov (.const (.int .i64 0)), none, 1, [], true, []⟩] 1)
 (.seq (.region rg_42_0 1)
 (.seq (.seq (.region [⟨(some 21), .mov (.tmp 11), none, 0, [], true, []⟩, ⟨(some 22), .bin false .neq (.tmp 21) (.const (.int .i64 0)), none, 0, [], true, []⟩] 0)
 (.cond (.tmp 22)
 (.seq (.region [⟨(some 23), .mov (.tmp 11), none, 0, [], true, []⟩, ⟨(some 8), .mov (.const (.slice none 0 0)), none, 0, [], true, []⟩, ⟨(some 9), .mov (.tmp 23), none, 0, [], true, []⟩] 0)
 .ret)
 .skip))
 (.seq (.seq (.region [⟨(some 24), .mov (.tmp 3), none, 0, [], true, []⟩, ⟨(some 25), .call 49 [(.const (.int .i64 0)), (.tmp 24), (.const (.int .i64 20))], none, 0, [], true, []⟩, ⟨(some 26), .un .not (.tmp 25), none, 1, [], true, []⟩] 1)
 (.cond (.tmp 26)
 (.seq (.region [⟨(some 8), .mov (.const (.slice none 0 0)), none, 0, [], true, []⟩, ⟨(some 9), .mov (.const (.int .i64 3)), none, 0, [], true, []⟩] 0)
 .ret)
 .skip))
 (.seq (.region [⟨(some 27), .faddr 2 (.tmp 4), none, 0, [], true, []⟩, ⟨(some 28), .load none (.tmp 27), none, 0, [], true, []⟩, ⟨(some 29), .len false (.tmp 28), none, 0, [], true, []⟩, ⟨(some 30), .mkSlice 1 1 [(.val (.int .u8 0))] (.tmp 29) (.tmp 29), none, 0, [], true, []⟩, ⟨(some 12), .mov (.tmp 30), none, 1, [], true, []⟩] 1)
 (.seq (.seq (.region [⟨(some 31), .mov (.tmp 12), none, 0, [], true, []⟩, ⟨(some 32), .len false (.tmp 31), none, 0, [], true, []⟩, ⟨(some 33), .mov (.const (.int .i64 0)), none, 0, [], true, []⟩] 0)
 (.block 0 (.loop lp_42_2)))
 rs_42_3))))))⟩
def af_26 : AFun := ⟨22, [.inl 6], (.seq (.region [⟨(some 3), .box 4 (.tmp 0), none, 0, [], true, []⟩, ⟨(some 6), .mov (.const (.int .i64 0)), none, 1, [], true, []⟩] 1)
 (.seq (.seq (.region [⟨(some 7), .load (some 4) (.tmp 3), none, 0, [], true, []⟩, ⟨(some 8), .mov (.tmp 1), none, 0, [], true, []⟩, ⟨(some 9), .call 20 [(.tmp 7), (.tmp 8)], none, 0, [], true, []⟩, ⟨(some 10), .un .not (.tmp 9), none, 1, [], true, []⟩] 1)
 (.cond (.tmp 10)
 (.seq (.region [⟨(some 6), .mov (.const (.int .i64 2)), none, 0, [], true, []⟩] 0)
 .ret)
 .skip))
 (.seq (.seq (.region [⟨(some 11), .mov (.tmp 2), none, 0, [], true, []⟩, ⟨(some 12), .len false (.tmp 11), none, 0, [], true, []⟩, ⟨(some 13), .mov (.tmp 1), none, 0, [], true, []⟩, ⟨(some 14), .len false (.tmp 13), none, 0, [], true, []⟩, ⟨(some 15), .bin false .neq (.tmp 12) (.tmp 14), none, 0, [], true, []⟩] 0)
 (.cond (.tmp 15)
 (.seq (.region [⟨(some 6), .mov (.const (.int .i64 5)), none, 0, [], true, []⟩] 0)
 .ret)
 .skip))
 (.seq (.seq (.region [⟨(some 16), .load (some 4) (.tmp 3), none, 0, [], true, []⟩, ⟨(some 17), .mov (.tmp 1), none, 0, [], true, []⟩, ⟨(some 18), .mov (.tmp 2), none, 0, [], true, []⟩, ⟨(some 19), .call 27 [(.tmp 16), (.tmp 17), (.tmp 18)], none, 0, [], true, []⟩, ⟨(some 20), .field none 0 (.tmp 19), none, 1, [], true, []⟩, ⟨(some 21), .bin false .neq (.tmp 20) (.const (.int .u8 0)), none, 1, [], true, []⟩] 1)
 (.cond (.tmp 21)
 (.seq (.region [⟨(some 6), .mov (.const (.int .i64 100)), none, 0, [], true, []⟩] 0)
 .ret)
 .skip))
 (.seq (.region [⟨(some 6), .mov (.const (.int .i64 0)), none, 0, [], true, []⟩] 0)
 .ret)))))⟩
def rg_43_0 : List AOper := [⟨(some 44), .mov (.tmp 1), none, 0, [], true, []⟩, ⟨(some 45), .mov (.tmp 12), none, 0, [], true, []⟩, ⟨(some 46), .iaddr 7 (.tmp 44) (.tmp 45), none, 0, [2, 3], false, []⟩, ⟨(some 47), .load (some 7) (.tmp 46), none, 1, [2, 3], false, []⟩, ⟨(some 48), .mov (.tmp 2), none, 2, [], true, []⟩, ⟨(some 49), .mov (.tmp 12), none, 2, [], true, []⟩, ⟨(some 50), .iaddr 1 (.tmp 48) (.tmp 49), none, 2, [0, 1], false, []⟩, ⟨(some 51), .load none (.tmp 50), none, 3, [0, 1], false, []⟩, ⟨(some 52), .mov (.tmp 4), none, 4, [], true, []⟩, ⟨(some 53), .mov (.tmp 13), none, 4, [], true, []⟩, ⟨(some 54), .bin false .add (.tmp 52) (.tmp 53), none, 4, [], true, []⟩, ⟨(some 55), .call 68 [(.tmp 47), (.tmp 51), (.tmp 54)], none, 4, [], true, []⟩]
def lp_43_1 : ACode := (.seq (.seq (.region [⟨(some 38), .mov (.tmp 13), none, 0, [], true, []⟩, ⟨(some 39), .faddr 1 (.tmp 5), none, 0, [], true, []⟩, ⟨(some 40), .load none (.tmp 39), none, 0, [], true, []⟩, ⟨(some 41), .bin false .leq (.tmp 38) (.tmp 40), none, 0, [], true, []⟩] 0)
 (.cond (.tmp 41)
 .skip
 (.exit 2)))
 (.seq (.block 3 (.seq (.region rg_43_0 5)
 (.cond (.tmp 55)
 (.region [⟨(some 11), .mov (.const (.int .u8 3)), none, 0, [], true, []⟩] 0)
 .skip)))
 (.region [⟨(some 42), .mov (.tmp 13), none, 0, [], true, []⟩, ⟨(some 43), .bin false .add (.tmp 42) (.const (.int .i64 1)), none, 0, [], true, []⟩, ⟨(some 13), .mov (.tmp 43), none, 0, [], true, []⟩] 0)))
def rs_43_2 : ACode := (.region [⟨(some 26), .mov (.tmp 12), none, 0, [], true, []⟩, ⟨(some 27), .bin false .add (.tmp 26) (.const (.int .i64 1)), none, 0, [], true, []⟩, ⟨(some 12), .mov (.tmp 27), none, 0, [], true, []⟩] 0)
def lp_43_3 : ACode := (.seq (.seq (.region [⟨(some 22), .mov (.tmp 12), none, 0, [], true, []⟩, ⟨(some 23), .mov (.tmp 1), none, 0, [], true, []⟩, ⟨(some 24), .len false (.tmp 23), none, 0, [], true, []⟩, ⟨(some 25), .bin false .lss (.tmp 22) (.tmp 24), none, 0, [], true, []⟩] 0)
 (.cond (.tmp 25)
 .skip
 (.exit 0)))
 (.seq (.block 1 (.seq (.seq (.region [⟨(some 28), .mov (.tmp 1), none, 0, [], true, []⟩, ⟨(some 29), .mov (.tmp 12), none, 0, [], true, []⟩, ⟨(some 30), .iaddr 7 (.tmp 28) (.tmp 29), none, 0, [], true, []⟩, ⟨(some 31), .faddr 0 (.tmp 30), none, 0, [], true, []⟩, ⟨(some 32), .load none (.tmp 31), none, 0, [], true, []⟩, ⟨(some 33), .mov (.tmp 3), none, 0, [], true, []⟩, ⟨(some 34), .bin false .eql (.tmp 32) (.tmp 33), none, 0, [], true, []⟩] 0)
 (.cond (.tmp 34)
 (.exit 1)
 .skip))
 (.seq (.region [⟨(some 35), .faddr 1 (.tmp 5), none, 0, [], true, []⟩, ⟨(some 36), .load none (.tmp 35), none, 0, [], true, []⟩, ⟨(some 37), .un .neg (.tmp 36), none, 0, [], true, []⟩, ⟨(some 13), .mov (.tmp 37), none, 0, [], true, []⟩] 0)
 (.block 2 (.loop lp_43_1)))))
 rs_43_2))
def rg_43_4 : List AOper := [⟨(some 62), .mov (.tmp 1), none, 0, [], true, []⟩, ⟨(some 63), .mov (.tmp 14), none, 0, [], true, []⟩, ⟨(some 64), .iaddr 7 (.tmp 62) (.tmp 63), none, 0, [], true, []⟩, ⟨(some 65), .faddr 0 (.tmp 64), none, 1, [], true, []⟩, ⟨(some 66), .load none (.tmp 65), none, 2, [], true, []⟩, ⟨(some 67), .mov (.tmp 3), none, 3, [], true, []⟩, ⟨(some 68), .bin false .eql (.tmp 66) (.tmp 67), none, 3, [], true, []⟩, ⟨(some 69), .mov (.tmp 68), none, 3, [], true, []⟩, ⟨(some 70), .mov (.tmp 1), (some ((some 69), true)), 3, [], true, []⟩, ⟨(some 71), .mov (.tmp 14), (some ((some 69), true)), 3, [], true, []⟩, ⟨(some 72), .iaddr 7 (.tmp 70) (.tmp 71), (some ((some 69), true)), 3, [5, 6], false, []⟩, ⟨(some 73), .load (some 7) (.tmp 72), (some ((some 69), true)), 4, [5, 6], false, []⟩, ⟨(some 74), .mov (.tmp 2), (some ((some 69), true)), 5, [], true, []⟩, ⟨(some 75), .mov (.tmp 14), (some ((some 69), true)), 5, [], true, []⟩, ⟨(some 76), .iaddr 1 (.tmp 74) (.tmp 75), (some ((some 69), true)), 5, [3, 4], false, []⟩, ⟨(some 77), .load none (.tmp 76), (some ((some 69), true)), 6, [3, 4], false, []⟩, ⟨(some 78), .mov (.tmp 4), (some ((some 69), true)), 7, [], true, []⟩, ⟨(some 79), .call 70 [(.tmp 73), (.tmp 77), (.tmp 78)], (some ((some 69), true)), 7, [], true, []⟩, ⟨(some 80), .pick (.tmp 69) (.tmp 79) (.const (.bool false)), none, 8, [], true, []⟩]
def lp_43_5 : ACode := (.seq (.seq (.region [⟨(some 56), .mov (.tmp 14), none, 0, [], true, []⟩, ⟨(some 57), .mov (.tmp 1), none, 0, [], true, []⟩, ⟨(some 58), .len false (.tmp 57), none, 0, [], true, []⟩, ⟨(some 59), .bin false .lss (.tmp 56) (.tmp 58), none, 0, [], true, []⟩] 0)
 (.cond (.tmp 59)
 .skip
 (.exit 4)))
 (.seq (.block 5 (.seq (.region rg_43_4 8)
 (.cond (.tmp 80)
 (.region [⟨(some 11), .mov (.const (.int .u8 2)), none, 0, [], true, []⟩] 0)
 .skip)))
 (.region [⟨(some 60), .mov (.tmp 14), none, 0, [], true, []⟩, ⟨(some 61), .bin false .add (.tmp 60) (.const (.int .i64 1)), none, 0, [], true, []⟩, ⟨(some 14), .mov (.tmp 61), none, 0, [], true, []⟩] 0)))
def rg_43_6 : List AOper := [⟨(some 87), .mov (.tmp 1), none, 0, [], true, []⟩, ⟨(some 88), .mov (.tmp 15), none, 0, [], true, []⟩, ⟨(some 89), .iaddr 7 (.tmp 87) (.tmp 88), none, 0, [], true, []⟩, ⟨(some 90), .faddr 0 (.tmp 89), none, 1, [], true, []⟩, ⟨(some 91), .load none (.tmp 90), none, 2, [], true, []⟩, ⟨(some 92), .mov (.tmp 3), none, 3, [], true, []⟩, ⟨(some 93), .bin false .eql (.tmp 91) (.tmp 92), none, 3, [], true, []⟩, ⟨(some 94), .mov (.tmp 93), none, 3, [], true, []⟩, ⟨(some 95), .mov (.tmp 1), (some ((some 94), true)), 3, [], true, []⟩, ⟨(some 96), .mov (.tmp 15), (some ((some 94), true)), 3, [], true, []⟩, ⟨(some 97), .iaddr 7 (.tmp 95) (.tmp 96), (some ((some 94), true)), 3, [5, 6], false, []⟩, ⟨(some 98), .load (some 7) (.tmp 97), (some ((some 94), true)), 4, [5, 6], false, []⟩, ⟨(some 99), .mov (.tmp 2), (some ((some 94), true)), 5, [], true, []⟩, ⟨(some 100), .mov (.tmp 15), (some ((some 94), true)), 5, [], true, []⟩, ⟨(some 101), .iaddr 1 (.tmp 99) (.tmp 100), (some ((some 94), true)), 5, [3, 4], false, []⟩, ⟨(some 102), .load none (.tmp 101), (some ((some 94), true)), 6, [3, 4], false, []⟩, ⟨(some 103), .mov (.tmp 4), (some ((some 94), true)), 7, [], true, []⟩, ⟨(some 104), .call 68 [(.tmp 98), (.tmp 102), (.tmp 103)], (some ((some 94), true)), 7, [], true, []⟩, ⟨(some 105), .pick (.tmp 94) (.tmp 104) (.const (.bool false)), none, 8, [], true, []⟩]
def lp_43_7 : ACode := (.seq (.seq (.region [⟨(some 81), .mov (.tmp 15), none, 0, [], true, []⟩, ⟨(some 82), .mov (.tmp 1), none, 0, [], true, []⟩, ⟨(some 83), .len false (.tmp 82), none, 0, [], true, []⟩, ⟨(some 84), .bin false .lss (.tmp 81) (.tmp 83), none, 0, [], true, []⟩] 0)
 (.cond (.tmp 84)
 .skip
 (.exit 6)))
 (.seq (.block 7 (.seq (.region rg_43_6 8)
 (.cond (.tmp 105)
 (.region [⟨(some 11), .mov (.const (.int .u8 1)), none, 0, [], true, []⟩] 0)
 .skip)))
 (.region [⟨(some 85), .mov (.tmp 15), none, 0, [], true, []⟩, ⟨(some 86), .bin false .add (.tmp 85) (.const (.int .i64 1)), none, 0, [], true, []⟩, ⟨(some 15), .mov (.tmp 86), none, 0, [], true, []⟩] 0)))
def rs_43_8 : ACode := (.seq (.region [⟨(some 106), .mov (.tmp 11), none, 0, [], true, []⟩, ⟨(some 10), .mov (.tmp 106), none, 0, [], true, []⟩] 0)
 .ret)
def rs_43_9 : ACode := (.seq (.seq (.region [⟨(some 15), .mov (.const (.int .i64 0)), none, 0, [], true, []⟩] 0)
 (.block 6 (.loop lp_43_7)))
 rs_43_8)
def rs_43_10 : ACode := (.seq (.seq (.region [⟨(some 14), .mov (.const (.int .i64 0)), none, 0, [], true, []⟩] 0)
 (.block 4 (.loop lp_43_5)))
 rs_43_9)
def af_43 : AFun := ⟨107, [.inl 10], (.seq (.region [⟨(some 5), .box 4 (.tmp 0), none, 0, [], true, []⟩, ⟨(some 10), .mov (.const (.int .u8 0)), none, 1, [], true, []⟩] 1)
 (.seq (.region [⟨(some 11), .mov (.const (.int .u8 0)), none, 0, [], true, []⟩] 0)
 (.seq (.seq (.region [⟨(some 16), .faddr 2 (.tmp 5), none, 0, [], true, []⟩, ⟨(some 17), .load none (.tmp 16), none, 0, [], true, []⟩, ⟨(some 18), .mov (.tmp 4), none, 0, [], true, []⟩, ⟨(some 19), .iaddr 1 (.tmp 17) (.tmp 18), none, 0, [], true, []⟩, ⟨(some 20), .load none (.tmp 19), none, 0, [], true, []⟩, ⟨(some 21), .bin false .eql (.tmp 20) (.const (.int .i64 0)), none, 0, [], true, []⟩] 0)
 (.cond (.tmp 21)
 (.region [⟨(some 11), .mov (.const (.int .u8 3)), none, 0, [], true, []⟩] 0)
 .skip))
 (.seq (.seq (.region [⟨(some 12), .mov (.const (.int .i64 0)), none, 0, [], true, []⟩] 0)
 (.block 0 (.loop lp_43_3)))
 rs_43_10))))⟩
def af_47 : AFun := ⟨8, [.inr (0, (some 4)), .inl 1], (.seq (.region [⟨(some 0), .zero [(.val (.int .i64 0)), (.val (.int .i64 0)), (.val (.slice none 0 0)), (.val (.slice none 0 0))], none, 0, [], true, []⟩, ⟨(some 1), .mov (.const (.slice none 0 0)), none, 1, [], true, []⟩] 1)
 (.seq (.region [⟨(some 2), .bslice 1 6 [(.val (.int .i64 0))] [(0, (.const (.int .i64 1))), (1, (.const (.int .i64 1))), (2, (.const (.int .i64 1))), (3, (.const (.int .i64 1))), (4, (.const (.int .i64 1))), (5, (.const (.int .i64 1)))], none, 0, [], true, []⟩, ⟨(some 3), .bslice 1 6 [(.val (.int .i64 0))] [(0, (.const (.int .i64 10))), (1, (.const (.int .i64 10))), (2, (.const (.int .i64 10))), (3, (.const (.int .i64 10))), (4, (.const (.int .i64 10))), (5, (.const (.int .i64 10)))], none, 1, [], true, []⟩, ⟨(some 4), .build [(.val (.int .i64 0)), (.val (.int .i64 0)), (.val (.slice none 0 0)), (.val (.slice none 0 0))] [(0, 1, (.const (.int .i64 1))), (1, 1, (.const (.int .i64 1))), (2, 1, (.tmp 2)), (3, 1, (.tmp 3))], none, 2, [], true, []⟩, ⟨(some 5), .build [(.val (.int .i64 0)), (.val (.int .i64 0)), (.val (.int .i64 0)), (.val (.int .i64 0)), (.val (.int .i64 0)), (.val (.int .i64 0)), (.val (.int .i64 0))] [(1, 1, (.const (.int .i64 1))), (2, 1, (.const (.int .i64 2))), (3, 1, (.const (.int .i64 5))), (5, 1, (.const (.int .i64 6))), (6, 1, (.const (.int .i64 1)))], none, 2, [], true, []⟩, ⟨(some 6), .build [(.val (.int .i64 0)), (.val (.int .i64 0)), (.val (.int .i64 0)), (.val (.int .i64 0)), (.val (.int .i64 0)), (.val (.int .i64 0)), (.val (.int .i64 0))] [(0, 1, (.const (.int .i64 1))), (1, 1, (.const (.int .i64 1))), (2, 1, (.const (.int .i64 1))), (3, 1, (.const (.int .i64 5))), (5, 1, (.const (.int .i64 6))), (6, 1, (.const (.int .i64 3)))], none, 2, [], true, []⟩, ⟨(some 7), .bslice 7 2 [(.val (.int .i64 0)), (.val (.int .i64 0)), (.val (.int .i64 0)), (.val (.int .i64 0)), (.val (.int .i64 0)), (.val (.int .i64 0)), (.val (.int .i64 0))] [(0, (.tmp 5)), (1, (.tmp 6))], none, 2, [], true, []⟩, ⟨none, .store 4 (.tmp 0) (.tmp 4), none, 3, [], true, []⟩, ⟨(some 1), .mov (.tmp 7), none, 3, [], true, []⟩] 3)
 .ret))⟩
def rg_33_0 : List AOper := [⟨(some 10), .load (some 4) (.tmp 2), none, 0, [1, 2], false, []⟩, ⟨(some 11), .mov (.tmp 1), none, 1, [], true, []⟩, ⟨(some 12), .mov (.tmp 1), none, 1, [], true, []⟩, ⟨(some 13), .len false (.tmp 12), none, 1, [0], false, []⟩, ⟨(some 14), .mkSlice 1 8 [(.val (.int .i64 0))] (.tmp 13) (.tmp 13), none, 2, [0], false, []⟩, ⟨(some 15), .call 57 [(.tmp 10), (.tmp 11), (.tmp 14)], none, 3, [], true, []⟩, ⟨(some 9), .mov (.tmp 15), none, 4, [], true, []⟩, ⟨(some 16), .extract (.tmp 9) 0, none, 4, [], true, []⟩, ⟨(some 17), .extract (.tmp 9) 1, none, 4, [], true, []⟩, ⟨(some 7), .mov (.tmp 16), none, 4, [], true, []⟩, ⟨(some 6), .mov (.tmp 17), none, 4, [], true, []⟩]
def rg_33_1 : List AOper := [⟨(some 21), .load (some 4) (.tmp 2), none, 0, [], true, []⟩, ⟨(some 22), .mov (.tmp 7), none, 0, [], true, []⟩, ⟨(some 23), .mov (.tmp 8), none, 0, [], true, []⟩, ⟨(some 24), .call 72 [(.tmp 21), (.tmp 22), (.tmp 23), (.const (.int .i64 0))], none, 0, [], true, []⟩, ⟨(some 25), .extract (.tmp 24) 0, none, 1, [], true, []⟩, ⟨(some 26), .extract (.tmp 24) 1, none, 1, [], true, []⟩, ⟨(some 27), .extract (.tmp 24) 2, none, 1, [], true, []⟩, ⟨(some 4), .mov (.tmp 25), none, 1, [], true, []⟩, ⟨(some 5), .mov (.tmp 26), none, 1, [], true, []⟩, ⟨(some 6), .mov (.tmp 27), none, 1, [], true, []⟩]
def af_33 : AFun := ⟨28, [.inl 4, .inl 5, .inl 6], (.seq (.region [⟨(some 2), .box 4 (.tmp 0), none, 0, [], true, []⟩, ⟨(some 4), .mov (.const (.slice none 0 0)), none, 1, [], true, []⟩, ⟨(some 5), .mov (.const (.int .i64 0)), none, 1, [], true, []⟩, ⟨(some 6), .mov (.const (.int .i64 0)), none, 1, [], true, []⟩] 1)
 (.seq (.region rg_33_0 4)
 (.seq (.seq (.region [⟨(some 18), .mov (.tmp 6), none, 0, [], true, []⟩, ⟨(some 19), .bin false .neq (.tmp 18) (.const (.int .i64 0)), none, 0, [], true, []⟩] 0)
 (.cond (.tmp 19)
 (.seq (.region [⟨(some 20), .mov (.tmp 6), none, 0, [], true, []⟩, ⟨(some 4), .mov (.const (.slice none 0 0)), none, 0, [], true, []⟩, ⟨(some 5), .mov (.const (.int .i64 0)), none, 0, [], true, []⟩, ⟨(some 6), .mov (.tmp 20), none, 0, [], true, []⟩] 0)
 .ret)
 .skip))
 (.seq (.region [⟨(some 8), .mov (.func 71), none, 0, [], true, []⟩] 0)
 (.seq (.region rg_33_1 1)
 .ret)))))⟩
def rg_21_0 : List AOper := [⟨(some 12), .load (some 4) (.tmp 3), none, 0, [], true, []⟩, ⟨(some 13), .mov (.tmp 1), none, 0, [], true, []⟩, ⟨(some 14), .mov (.tmp 2), none, 0, [], true, []⟩, ⟨(some 15), .call 57 [(.tmp 12), (.tmp 13), (.tmp 14)], none, 0, [], true, []⟩, ⟨(some 11), .mov (.tmp 15), none, 1, [], true, []⟩, ⟨(some 16), .extract (.tmp 11) 0, none, 1, [], true, []⟩, ⟨(some 17), .extract (.tmp 11) 1, none, 1, [], true, []⟩, ⟨(some 8), .mov (.tmp 16), none, 1, [], true, []⟩, ⟨(some 9), .mov (.tmp 17), none, 1, [], true, []⟩]
def af_21 : AFun := ⟨30, [.inr (6, (some 4)), .inl 7], (.seq (.region [⟨(some 3), .box 4 (.tmp 0), none, 0, [], true, []⟩, ⟨(some 6), .zero [(.val (.int .u8 0)), (.val (.int .i64 0)), (.val (.int .i64 0)), (.val (.int .i64 0))], none, 1, [], true, []⟩, ⟨(some 7), .mov (.const (.int .i64 0)), none, 2, [], true, []⟩] 2)
 (.seq (.region rg_21_0 1)
 (.seq (.seq (.region [⟨(some 18), .mov (.tmp 9), none, 0, [], true, []⟩, ⟨(some 19), .bin false .neq (.tmp 18) (.const (.int .i64 0)), none, 0, [], true, []⟩] 0)
 (.cond (.tmp 19)
 (.seq (.region [⟨(some 20), .build [(.val (.int .u8 0)), (.val (.int .i64 0)), (.val (.int .i64 0)), (.val (.int .i64 0))] [], none, 0, [], true, []⟩, ⟨(some 21), .mov (.tmp 9), none, 0, [], true, []⟩, ⟨none, .store 4 (.tmp 6) (.tmp 20), none, 0, [], true, []⟩, ⟨(some 7), .mov (.tmp 21), none, 0, [], true, []⟩] 0)
 .ret)
 .skip))
 (.seq (.seq (.region [⟨(some 22), .load (some 4) (.tmp 3), none, 0, [], true, []⟩, ⟨(some 23), .mov (.tmp 8), none, 0, [], true, []⟩, ⟨(some 24), .call 58 [(.tmp 22), (.tmp 23)], none, 0, [], true, []⟩, ⟨(some 10), .zero [(.val (.int .u8 0)), (.val (.int .i64 0)), (.val (.int .i64 0)), (.val (.int .i64 0))], none, 1, [], true, []⟩, ⟨none, .store 4 (.tmp 10) (.tmp 24), none, 2, [], true, []⟩] 2)
 (.seq (.region [⟨(some 25), .faddr 0 (.tmp 10), none, 0, [], true, []⟩, ⟨(some 26), .load none (.tmp 25), none, 0, [], true, []⟩, ⟨(some 27), .bin false .neq (.tmp 26) (.const (.int .u8 0)), none, 0, [], true, []⟩] 0)
 (.cond (.tmp 27)
 (.seq (.region [⟨(some 28), .load (some 4) (.tmp 10), none, 0, [], true, []⟩, ⟨none, .store 4 (.tmp 6) (.tmp 28), none, 0, [], true, []⟩, ⟨(some 7), .mov (.const (.int .i64 100)), none, 0, [], true, []⟩] 0)
 .ret)
 .skip)))
 (.seq (.region [⟨(some 29), .build [(.val (.int .u8 0)), (.val (.int .i64 0)), (.val (.int .i64 0)), (.val (.int .i64 0))] [], none, 0, [], true, []⟩, ⟨none, .store 4 (.tmp 6) (.tmp 29), none, 0, [], true, []⟩, ⟨(some 7), .mov (.const (.int .i64 0)), none, 0, [], true, []⟩] 0)
 .ret)))))⟩
def rg_25_0 : List AOper := [⟨(some 17), .mov (.tmp 0), none, 0, [], true, []⟩, ⟨(some 18), .mov (.tmp 5), none, 0, [], true, []⟩, ⟨(some 19), .iaddr 1 (.tmp 17) (.tmp 18), none, 0, [2, 3], false, []⟩, ⟨(some 20), .load none (.tmp 19), none, 1, [2, 3], false, []⟩, ⟨(some 21), .mov (.tmp 1), none, 2, [], true, []⟩, ⟨(some 22), .mov (.tmp 5), none, 2, [], true, []⟩, ⟨(some 23), .iaddr 1 (.tmp 21) (.tmp 22), none, 2, [0, 1], false, []⟩, ⟨(some 24), .load none (.tmp 23), none, 3, [0, 1], false, []⟩, ⟨(some 25), .bin false .neq (.tmp 20) (.tmp 24), none, 4, [], true, []⟩]
def lp_25_1 : ACode := (.seq (.seq (.region [⟨(some 11), .mov (.tmp 5), none, 0, [], true, []⟩, ⟨(some 12), .mov (.tmp 0), none, 0, [], true, []⟩, ⟨(some 13), .len false (.tmp 12), none, 0, [], true, []⟩, ⟨(some 14), .bin false .lss (.tmp 11) (.tmp 13), none, 0, [], true, []⟩] 0)
 (.cond (.tmp 14)
 .skip
 (.exit 0)))
 (.seq (.block 1 (.seq (.region rg_25_0 4)
 (.cond (.tmp 25)
 (.seq (.region [⟨(some 4), .mov (.const (.bool false)), none, 0, [], true, []⟩] 0)
 .ret)
 .skip)))
 (.region [⟨(some 15), .mov (.tmp 5), none, 0, [], true, []⟩, ⟨(some 16), .bin false .add (.tmp 15) (.const (.int .i64 1)), none, 0, [], true, []⟩, ⟨(some 5), .mov (.tmp 16), none, 0, [], true, []⟩] 0)))
def rs_25_2 : ACode := (.seq (.region [⟨(some 4), .mov (.const (.bool true)), none, 0, [], true, []⟩] 0)
 .ret)
def af_25 : AFun := ⟨26, [.inl 4], (.seq (.region [⟨(some 4), .mov (.const (.bool false)), none, 0, [], true, []⟩] 0)
 (.seq (.seq (.region [⟨(some 6), .mov (.tmp 0), none, 0, [], true, []⟩, ⟨(some 7), .len false (.tmp 6), none, 0, [], true, []⟩, ⟨(some 8), .mov (.tmp 1), none, 0, [], true, []⟩, ⟨(some 9), .len false (.tmp 8), none, 0, [], true, []⟩, ⟨(some 10), .bin false .neq (.tmp 7) (.tmp 9), none, 0, [], true, []⟩] 0)
 (.cond (.tmp 10)
 (.seq (.region [⟨(some 4), .mov (.const (.bool false)), none, 0, [], true, []⟩] 0)
 .ret)
 .skip))
 (.seq (.seq (.region [⟨(some 5), .mov (.const (.int .i64 0)), none, 0, [], true, []⟩] 0)
 (.block 0 (.loop lp_25_1)))
 rs_25_2)))⟩
def rg_59_0 : List AOper := [⟨(some 11), .load (some 4) (.tmp 3), none, 0, [], true, []⟩, ⟨(some 12), .mov (.tmp 1), none, 0, [], true, []⟩, ⟨(some 13), .mov (.tmp 2), none, 0, [], true, []⟩, ⟨(some 14), .call 57 [(.tmp 11), (.tmp 12), (.tmp 13)], none, 0, [], true, []⟩, ⟨(some 10), .mov (.tmp 14), none, 1, [], true, []⟩, ⟨(some 15), .extract (.tmp 10) 0, none, 1, [], true, []⟩, ⟨(some 16), .extract (.tmp 10) 1, none, 1, [], true, []⟩, ⟨(some 8), .mov (.tmp 15), none, 1, [], true, []⟩, ⟨(some 9), .mov (.tmp 16), none, 1, [], true, []⟩]
def af_59 : AFun := ⟨25, [.inl 6, .inl 7], (.seq (.region [⟨(some 3), .box 4 (.tmp 0), none, 0, [], true, []⟩, ⟨(some 6), .mov (.const (.slice none 0 0)), none, 1, [], true, []⟩, ⟨(some 7), .mov (.const (.int .i64 0)), none, 1, [], true, []⟩] 1)
 (.seq (.region rg_59_0 1)
 (.seq (.seq (.region [⟨(some 17), .mov (.tmp 9), none, 0, [], true, []⟩, ⟨(some 18), .bin false .neq (.tmp 17) (.const (.int .i64 0)), none, 0, [], true, []⟩] 0)
 (.cond (.tmp 18)
 (.seq (.region [⟨(some 19), .mov (.tmp 9), none, 0, [], true, []⟩, ⟨(some 6), .mov (.const (.slice none 0 0)), none, 0, [], true, []⟩, ⟨(some 7), .mov (.tmp 19), none, 0, [], true, []⟩] 0)
 .ret)
 .skip))
 (.seq (.seq (.region [⟨(some 20), .load (some 4) (.tmp 3), none, 0, [], true, []⟩, ⟨(some 21), .mov (.tmp 8), none, 0, [], true, []⟩, ⟨(some 22), .call 91 [(.tmp 20), (.tmp 21)], none, 0, [], true, []⟩, ⟨(some 23), .un .not (.tmp 22), none, 1, [], true, []⟩] 1)
 (.cond (.tmp 23)
 (.seq (.region [⟨(some 6), .mov (.const (.slice none 0 0)), none, 0, [], true, []⟩, ⟨(some 7), .mov (.const (.int .i64 100)), none, 0, [], true, []⟩] 0)
 .ret)
 .skip))
 (.seq (.region [⟨(some 24), .mov (.tmp 8), none, 0, [], true, []⟩, ⟨(some 6), .mov (.tmp 24), none, 0, [], true, []⟩, ⟨(some 7), .mov (.const (.int .i64 0)), none, 0, [], true, []⟩] 0)
 .ret)))))⟩
def rg_49_0 : List AOper := [⟨(some 7), .mov (.tmp 0), none, 0, [], true, []⟩, ⟨(some 8), .mov (.tmp 1), none, 0, [], true, []⟩, ⟨(some 9), .bin false .leq (.tmp 7) (.tmp 8), none, 0, [], true, []⟩, ⟨(some 10), .mov (.tmp 9), none, 0, [], true, []⟩, ⟨(some 11), .mov (.tmp 1), (some ((some 10), true)), 0, [], true, []⟩, ⟨(some 12), .mov (.tmp 2), (some ((some 10), true)), 0, [], true, []⟩, ⟨(some 13), .bin false .leq (.tmp 11) (.tmp 12), (some ((some 10), true)), 0, [], true, []⟩, ⟨(some 14), .pick (.tmp 10) (.tmp 13) (.const (.bool false)), none, 0, [], true, []⟩, ⟨(some 6), .mov (.tmp 14), none, 0, [], true, []⟩]
def af_49 : AFun := ⟨15, [.inl 6], (.seq (.region [⟨(some 6), .mov (.const (.bool false)), none, 0, [], true, []⟩] 0)
 (.seq (.region rg_49_0 0)
 .ret))⟩
def rg_78_0 : List AOper := [⟨(some 24), .faddr 2 (.tmp 4), none, 0, [], true, []⟩, ⟨(some 25), .load none (.tmp 24), none, 0, [], true, []⟩, ⟨(some 26), .load none (.tmp 7), none, 0, [], true, []⟩, ⟨(some 27), .iaddr 1 (.tmp 25) (.tmp 26), none, 0, [], true, []⟩, ⟨(some 28), .load none (.tmp 27), none, 0, [], true, []⟩, ⟨(some 29), .bin false .eql (.tmp 28) (.const (.int .i64 0)), none, 0, [], true, []⟩, ⟨(some 30), .mov (.tmp 29), none, 0, [], true, []⟩, ⟨(some 31), .mov (.tmp 1), (some ((some 30), false)), 0, [], true, []⟩, ⟨(some 32), .mov (.tmp 11), (some ((some 30), false)), 0, [], true, []⟩, ⟨(some 33), .call 103 [(.tmp 31), (.tmp 32)], (some ((some 30), false)), 0, [], true, []⟩, ⟨(some 34), .pick (.tmp 30) (.const (.bool true)) (.tmp 33), none, 1, [], true, []⟩, ⟨(some 23), .mov (.tmp 34), none, 1, [], true, []⟩]
def af_78 : AFun := ⟨35, [.inl 8], (.seq (.region [⟨(some 4), .box 4 (.tmp 0), none, 0, [], true, []⟩, ⟨(some 6), .box 1 (.tmp 2), none, 1, [], true, []⟩, ⟨(some 7), .box 1 (.tmp 3), none, 2, [], true, []⟩, ⟨(some 8), .mov (.const (.int .u8 0)), none, 3, [], true, []⟩] 3)
 (.seq (.region [⟨(some 12), .mkFn 100 [] [(.tmp 6), (.tmp 7)], none, 0, [], true, []⟩, ⟨(some 9), .mov (.tmp 12), none, 0, [], true, []⟩] 0)
 (.seq (.region [⟨(some 13), .mkFn 101 [] [(.tmp 6), (.tmp 7)], none, 0, [], true, []⟩, ⟨(some 10), .mov (.tmp 13), none, 0, [], true, []⟩] 0)
 (.seq (.region [⟨(some 14), .mkFn 102 [] [(.tmp 6), (.tmp 4), (.tmp 7)], none, 0, [], true, []⟩, ⟨(some 11), .mov (.tmp 14), none, 0, [], true, []⟩] 0)
 (.seq (.block 0 (.seq (.region [⟨(some 16), .mov (.tmp 1), none, 0, [], true, []⟩, ⟨(some 17), .mov (.tmp 9), none, 0, [], true, []⟩, ⟨(some 18), .call 103 [(.tmp 16), (.tmp 17)], none, 0, [], true, []⟩, ⟨(some 15), .mov (.tmp 18), none, 1, [], true, []⟩] 1)
 (.cond (.tmp 15)
 (.seq (.region [⟨(some 8), .mov (.const (.int .u8 1)), none, 0, [], true, []⟩] 0)
 .ret)
 (.seq (.region [⟨(some 20), .mov (.tmp 1), none, 0, [], true, []⟩, ⟨(some 21), .mov (.tmp 10), none, 0, [], true, []⟩, ⟨(some 22), .call 103 [(.tmp 20), (.tmp 21)], none, 0, [], true, []⟩, ⟨(some 19), .mov (.tmp 22), none, 1, [], true, []⟩] 1)
 (.cond (.tmp 19)
 (.seq (.region [⟨(some 8), .mov (.const (.int .u8 2)), none, 0, [], true, []⟩] 0)
 .ret)
 (.seq (.region rg_78_0 1)
 (.cond (.tmp 23)
 (.seq (.region [⟨(some 8), .mov (.const (.int .u8 3)), none, 0, [], true, []⟩] 0)
 .ret)
 .skip)))))))
 (.seq (.region [⟨(some 8), .mov (.const (.int .u8 0)), none, 0, [], true, []⟩] 0)
 .ret))))))⟩
def rg_20_0 : List AOper := [⟨(some 25), .faddr 0 (.tmp 6), none, 0, [], true, []⟩, ⟨(some 26), .load none (.tmp 25), none, 0, [], true, []⟩, ⟨(some 27), .call 56 [(.tmp 26), (.const (.int .i64 0)), (.const (.int .i64 20))], none, 0, [], true, []⟩, ⟨(some 28), .un .not (.tmp 27), none, 1, [], true, []⟩, ⟨(some 29), .mov (.tmp 28), none, 1, [], true, []⟩, ⟨(some 30), .faddr 1 (.tmp 6), (some ((some 29), false)), 1, [], true, []⟩, ⟨(some 31), .load none (.tmp 30), (some ((some 29), false)), 1, [], true, []⟩, ⟨(some 32), .call 56 [(.tmp 31), (.const (.int .i64 0)), (.const (.int .i64 24))], (some ((some 29), false)), 1, [], true, []⟩, ⟨(some 33), .un .not (.tmp 32), (some ((some 29), false)), 2, [], true, []⟩, ⟨(some 34), .pick (.tmp 29) (.const (.bool true)) (.tmp 33), none, 2, [], true, []⟩, ⟨(some 35), .mov (.tmp 34), none, 2, [], true, []⟩, ⟨(some 36), .faddr 2 (.tmp 6), (some ((some 35), false)), 2, [], true, []⟩, ⟨(some 37), .load none (.tmp 36), (some ((some 35), false)), 2, [], true, []⟩, ⟨(some 38), .call 56 [(.tmp 37), (.const (.int .i64 1)), (.const (.int .i64 24))], (some ((some 35), false)), 2, [], true, []⟩, ⟨(some 39), .un .not (.tmp 38), (some ((some 35), false)), 3, [], true, []⟩, ⟨(some 40), .pick (.tmp 35) (.const (.bool true)) (.tmp 39), none, 3, [], true, []⟩, ⟨(some 41), .mov (.tmp 40), none, 3, [], true, []⟩, ⟨(some 42), .faddr 3 (.tmp 6), (some ((some 41), false)), 3, [], true, []⟩, ⟨(some 43), .load none (.tmp 42), (some ((some 41), false)), 3, [], true, []⟩, ⟨(some 44), .call 56 [(.tmp 43), (.const (.int .i64 0)), (.const (.int .i64 1000))], (some ((some 41), false)), 3, [], true, []⟩, ⟨(some 45), .un .not (.tmp 44), (some ((some 41), false)), 4, [], true, []⟩, ⟨(some 46), .pick (.tmp 41) (.const (.bool true)) (.tmp 45), none, 4, [], true, []⟩, ⟨(some 47), .mov (.tmp 46), none, 4, [], true, []⟩, ⟨(some 48), .faddr 4 (.tmp 6), (some ((some 47), false)), 4, [], true, []⟩, ⟨(some 49), .load none (.tmp 48), (some ((some 47), false)), 4, [], true, []⟩, ⟨(some 50), .faddr 5 (.tmp 6), (some ((some 47), false)), 4, [], true, []⟩, ⟨(some 51), .load none (.tmp 50), (some ((some 47), false)), 4, [], true, []⟩, ⟨(some 52), .call 56 [(.tmp 49), (.const (.int .i64 0)), (.tmp 51)], (some ((some 47), false)), 4, [], true, []⟩, ⟨(some 53), .un .not (.tmp 52), (some ((some 47), false)), 5, [], true, []⟩, ⟨(some 54), .pick (.tmp 47) (.const (.bool true)) (.tmp 53), none, 5, [], true, []⟩, ⟨(some 55), .mov (.tmp 54), none, 5, [], true, []⟩, ⟨(some 56), .faddr 5 (.tmp 6), (some ((some 55), false)), 5, [], true, []⟩, ⟨(some 57), .load none (.tmp 56), (some ((some 55), false)), 5, [], true, []⟩, ⟨(some 58), .faddr 2 (.tmp 2), (some ((some 55), false)), 5, [], true, []⟩, ⟨(some 59), .load none (.tmp 58), (some ((some 55), false)), 5, [], true, []⟩, ⟨(some 60), .len false (.tmp 59), (some ((some 55), false)), 5, [], true, []⟩, ⟨(some 61), .bin false .gtr (.tmp 57) (.tmp 60), (some ((some 55), false)), 5, [], true, []⟩, ⟨(some 62), .pick (.tmp 55) (.const (.bool true)) (.tmp 61), none, 5, [], true, []⟩, ⟨(some 63), .mov (.tmp 62), none, 5, [], true, []⟩, ⟨(some 64), .faddr 6 (.tmp 6), (some ((some 63), false)), 5, [], true, []⟩, ⟨(some 65), .load none (.tmp 64), (some ((some 63), false)), 5, [], true, []⟩, ⟨(some 66), .call 56 [(.tmp 65), (.const (.int .i64 0)), (.const (.int .i64 100))], (some ((some 63), false)), 5, [], true, []⟩, ⟨(some 67), .un .not (.tmp 66), (some ((some 63), false)), 6, [], true, []⟩, ⟨(some 68), .pick (.tmp 63) (.const (.bool true)) (.tmp 67), none, 6, [], true, []⟩]
def lp_20_1 : ACode := (.seq (.seq (.region [⟨(some 15), .mov (.tmp 5), none, 0, [], true, []⟩, ⟨(some 16), .mov (.tmp 1), none, 0, [], true, []⟩, ⟨(some 17), .len false (.tmp 16), none, 0, [], true, []⟩, ⟨(some 18), .bin false .lss (.tmp 15) (.tmp 17), none, 0, [], true, []⟩] 0)
 (.cond (.tmp 18)
 .skip
 (.exit 0)))
 (.seq (.block 1 (.seq (.region [⟨(some 21), .mov (.tmp 1), none, 0, [], true, []⟩, ⟨(some 22), .mov (.tmp 5), none, 0, [], true, []⟩, ⟨(some 23), .iaddr 7 (.tmp 21) (.tmp 22), none, 0, [], true, []⟩, ⟨(some 24), .load (some 7) (.tmp 23), none, 0, [], true, []⟩, ⟨(some 6), .zero [(.val (.int .i64 0)), (.val (.int .i64 0)), (.val (.int .i64 0)), (.val (.int .i64 0)), (.val (.int .i64 0)), (.val (.int .i64 0)), (.val (.int .i64 0))], none, 0, [], true, []⟩, ⟨none, .store 7 (.tmp 6) (.tmp 24), none, 1, [], true, []⟩] 1)
 (.seq (.region rg_20_0 6)
 (.cond (.tmp 68)
 (.seq (.region [⟨(some 4), .mov (.const (.bool false)), none, 0, [], true, []⟩] 0)
 .ret)
 .skip))))
 (.region [⟨(some 19), .mov (.tmp 5), none, 0, [], true, []⟩, ⟨(some 20), .bin false .add (.tmp 19) (.const (.int .i64 1)), none, 0, [], true, []⟩, ⟨(some 5), .mov (.tmp 20), none, 0, [], true, []⟩] 0)))
def rs_20_2 : ACode := (.seq (.region [⟨(some 4), .mov (.const (.bool true)), none, 0, [], true, []⟩] 0)
 .ret)
def af_20 : AFun := ⟨69, [.inl 4], (.seq (.region [⟨(some 2), .box 4 (.tmp 0), none, 0, [], true, []⟩, ⟨(some 4), .mov (.const (.bool false)), none, 1, [], true, []⟩] 1)
 (.seq (.seq (.region [⟨(some 7), .load (some 4) (.tmp 2), none, 0, [], true, []⟩, ⟨(some 8), .call 19 [(.tmp 7)], none, 0, [], true, []⟩, ⟨(some 9), .un .not (.tmp 8), none, 1, [], true, []⟩, ⟨(some 10), .mov (.tmp 9), none, 1, [], true, []⟩, ⟨(some 11), .mov (.tmp 1), (some ((some 10), false)), 1, [], true, []⟩, ⟨(some 12), .len false (.tmp 11), (some ((some 10), false)), 1, [], true, []⟩, ⟨(some 13), .bin false .gtr (.tmp 12) (.const (.int .i64 16)), (some ((some 10), false)), 1, [], true, []⟩, ⟨(some 14), .pick (.tmp 10) (.const (.bool true)) (.tmp 13), none, 1, [], true, []⟩] 1)
 (.cond (.tmp 14)
 (.seq (.region [⟨(some 4), .mov (.const (.bool false)), none, 0, [], true, []⟩] 0)
 .ret)
 .skip))
 (.seq (.seq (.region [⟨(some 5), .mov (.const (.int .i64 0)), none, 0, [], true, []⟩] 0)
 (.block 0 (.loop lp_20_1)))
 rs_20_2)))⟩
def rg_27_0 : List AOper := [⟨(some 21), .mov (.tmp 2), none, 0, [], true, []⟩, ⟨(some 22), .mov (.tmp 7), none, 0, [], true, []⟩, ⟨(some 23), .iaddr 1 (.tmp 21) (.tmp 22), none, 0, [2, 3, 4, 5, 6, 7, 8, 9, 10, 11, 12, 13], false, []⟩, ⟨(some 24), .load none (.tmp 23), none, 1, [2, 3, 4, 5, 6, 7, 8, 9, 10, 11, 12, 13], false, []⟩, ⟨(some 25), .mov (.tmp 1), none, 2, [], true, []⟩, ⟨(some 26), .mov (.tmp 7), none, 2, [], true, []⟩, ⟨(some 27), .iaddr 7 (.tmp 25) (.tmp 26), none, 2, [0, 1, 5, 6, 7, 8, 9, 10, 11, 12, 13], false, []⟩, ⟨(some 28), .faddr 4 (.tmp 27), none, 3, [0, 1, 5, 6, 7, 8, 9, 10, 11, 12, 13], false, []⟩, ⟨(some 29), .load none (.tmp 28), none, 4, [0, 1, 5, 6, 7, 8, 9, 10, 11, 12, 13], false, []⟩, ⟨(some 30), .mov (.tmp 1), none, 5, [], true, []⟩, ⟨(some 31), .mov (.tmp 7), none, 5, [], true, []⟩, ⟨(some 32), .iaddr 7 (.tmp 30) (.tmp 31), none, 5, [0, 1, 2, 3, 4, 8, 9, 10, 11, 12, 13], false, []⟩, ⟨(some 33), .faddr 1 (.tmp 32), none, 6, [0, 1, 2, 3, 4, 8, 9, 10, 11, 12, 13], false, []⟩, ⟨(some 34), .load none (.tmp 33), none, 7, [0, 1, 2, 3, 4, 8, 9, 10, 11, 12, 13], false, []⟩, ⟨(some 35), .bin false .add (.tmp 29) (.tmp 34), none, 8, [], true, []⟩, ⟨(some 36), .mov (.tmp 1), none, 8, [], true, []⟩, ⟨(some 37), .mov (.tmp 7), none, 8, [], true, []⟩, ⟨(some 38), .iaddr 7 (.tmp 36) (.tmp 37), none, 8, [0, 1, 2, 3, 4, 5, 6, 7, 11, 12, 13], false, []⟩, ⟨(some 39), .faddr 5 (.tmp 38), none, 9, [0, 1, 2, 3, 4, 5, 6, 7, 11, 12, 13], false, []⟩, ⟨(some 40), .load none (.tmp 39), none, 10, [0, 1, 2, 3, 4, 5, 6, 7, 11, 12, 13], false, []⟩, ⟨(some 41), .mov (.tmp 1), none, 11, [], true, []⟩, ⟨(some 42), .mov (.tmp 7), none, 11, [], true, []⟩, ⟨(some 43), .iaddr 7 (.tmp 41) (.tmp 42), none, 11, [0, 1, 2, 3, 4, 5, 6, 7, 8, 9, 10], false, []⟩, ⟨(some 44), .faddr 2 (.tmp 43), none, 12, [0, 1, 2, 3, 4, 5, 6, 7, 8, 9, 10], false, []⟩, ⟨(some 45), .load none (.tmp 44), none, 13, [0, 1, 2, 3, 4, 5, 6, 7, 8, 9, 10], false, []⟩, ⟨(some 46), .bin false .sub (.tmp 40) (.tmp 45), none, 14, [], true, []⟩, ⟨(some 47), .call 56 [(.tmp 24), (.tmp 35), (.tmp 46)], none, 14, [], true, []⟩, ⟨(some 48), .un .not (.tmp 47), none, 15, [], true, []⟩]
def lp_27_1 : ACode := (.seq (.seq (.region [⟨(some 15), .mov (.tmp 7), none, 0, [], true, []⟩, ⟨(some 16), .mov (.tmp 1), none, 0, [], true, []⟩, ⟨(some 17), .len false (.tmp 16), none, 0, [], true, []⟩, ⟨(some 18), .bin false .lss (.tmp 15) (.tmp 17), none, 0, [], true, []⟩] 0)
 (.cond (.tmp 18)
 .skip
 (.exit 0)))
 (.seq (.block 1 (.seq (.region rg_27_0 15)
 (.cond (.tmp 48)
 (.seq (.region [⟨(some 49), .mov (.tmp 7), none, 0, [], true, []⟩, ⟨(some 50), .build [(.val (.int .u8 0)), (.val (.int .i64 0)), (.val (.int .i64 0)), (.val (.int .i64 0))] [(0, 1, (.const (.int .u8 1))), (1, 1, (.tmp 49))], none, 0, [], true, []⟩, ⟨none, .store 4 (.tmp 6) (.tmp 50), none, 0, [], true, []⟩] 0)
 .ret)
 .skip)))
 (.region [⟨(some 19), .mov (.tmp 7), none, 0, [], true, []⟩, ⟨(some 20), .bin false .add (.tmp 19) (.const (.int .i64 1)), none, 0, [], true, []⟩, ⟨(some 7), .mov (.tmp 20), none, 0, [], true, []⟩] 0)))
def rg_27_2 : List AOper := [⟨(some 64), .mov (.tmp 1), none, 0, [], true, []⟩, ⟨(some 65), .mov (.tmp 8), none, 0, [], true, []⟩, ⟨(some 66), .iaddr 7 (.tmp 64) (.tmp 65), none, 0, [2, 3], false, []⟩, ⟨(some 67), .load (some 7) (.tmp 66), none, 1, [2, 3], false, []⟩, ⟨(some 68), .mov (.tmp 2), none, 2, [], true, []⟩, ⟨(some 69), .mov (.tmp 8), none, 2, [], true, []⟩, ⟨(some 70), .iaddr 1 (.tmp 68) (.tmp 69), none, 2, [0, 1], false, []⟩, ⟨(some 71), .load none (.tmp 70), none, 3, [0, 1], false, []⟩, ⟨(some 72), .mov (.tmp 9), none, 4, [], true, []⟩, ⟨(some 73), .call 68 [(.tmp 67), (.tmp 71), (.tmp 72)], none, 4, [], true, []⟩, ⟨(some 74), .mov (.tmp 73), none, 5, [], true, []⟩, ⟨(some 75), .faddr 2 (.tmp 3), (some ((some 74), true)), 5, [], true, []⟩, ⟨(some 76), .load none (.tmp 75), (some ((some 74), true)), 6, [], true, []⟩, ⟨(some 77), .mov (.tmp 9), (some ((some 74), true)), 7, [], true, []⟩, ⟨(some 78), .iaddr 1 (.tmp 76) (.tmp 77), (some ((some 74), true)), 7, [], true, []⟩, ⟨(some 79), .load none (.tmp 78), (some ((some 74), true)), 8, [], true, []⟩, ⟨(some 80), .bin false .eql (.tmp 79) (.const (.int .i64 0)), (some ((some 74), true)), 9, [], true, []⟩, ⟨(some 81), .pick (.tmp 74) (.tmp 80) (.const (.bool false)), none, 9, [], true, []⟩]
def lp_27_3 : ACode := (.seq (.seq (.region [⟨(some 57), .mov (.tmp 9), none, 0, [], true, []⟩, ⟨(some 58), .faddr 2 (.tmp 3), none, 0, [], true, []⟩, ⟨(some 59), .load none (.tmp 58), none, 0, [], true, []⟩, ⟨(some 60), .len false (.tmp 59), none, 0, [], true, []⟩, ⟨(some 61), .bin false .lss (.tmp 57) (.tmp 60), none, 0, [], true, []⟩] 0)
 (.cond (.tmp 61)
 .skip
 (.exit 4)))
 (.seq (.block 5 (.seq (.region rg_27_2 9)
 (.cond (.tmp 81)
 (.seq (.region [⟨(some 82), .mov (.tmp 8), none, 0, [], true, []⟩, ⟨(some 83), .mov (.tmp 9), none, 0, [], true, []⟩, ⟨(some 84), .build [(.val (.int .u8 0)), (.val (.int .i64 0)), (.val (.int .i64 0)), (.val (.int .i64 0))] [(0, 1, (.const (.int .u8 2))), (1, 1, (.tmp 82)), (3, 1, (.tmp 83))], none, 0, [], true, []⟩, ⟨none, .store 4 (.tmp 6) (.tmp 84), none, 0, [], true, []⟩] 0)
 .ret)
 .skip)))
 (.region [⟨(some 62), .mov (.tmp 9), none, 0, [], true, []⟩, ⟨(some 63), .bin false .add (.tmp 62) (.const (.int .i64 1)), none, 0, [], true, []⟩, ⟨(some 9), .mov (.tmp 63), none, 0, [], true, []⟩] 0)))
def rs_27_4 : ACode := (.region [⟨(some 55), .mov (.tmp 8), none, 0, [], true, []⟩, ⟨(some 56), .bin false .add (.tmp 55) (.const (.int .i64 1)), none, 0, [], true, []⟩, ⟨(some 8), .mov (.tmp 56), none, 0, [], true, []⟩] 0)
def lp_27_5 : ACode := (.seq (.seq (.region [⟨(some 51), .mov (.tmp 8), none, 0, [], true, []⟩, ⟨(some 52), .mov (.tmp 1), none, 0, [], true, []⟩, ⟨(some 53), .len false (.tmp 52), none, 0, [], true, []⟩, ⟨(some 54), .bin false .lss (.tmp 51) (.tmp 53), none, 0, [], true, []⟩] 0)
 (.cond (.tmp 54)
 .skip
 (.exit 2)))
 (.seq (.block 3 (.seq (.region [⟨(some 9), .mov (.const (.int .i64 0)), none, 0, [], true, []⟩] 0)
 (.block 4 (.loop lp_27_3))))
 rs_27_4))
def rg_27_6 : List AOper := [⟨(some 98), .mov (.tmp 1), none, 0, [], true, []⟩, ⟨(some 99), .mov (.tmp 10), none, 0, [], true, []⟩, ⟨(some 100), .iaddr 7 (.tmp 98) (.tmp 99), none, 0, [2, 3], false, []⟩, ⟨(some 101), .load (some 7) (.tmp 100), none, 1, [2, 3], false, []⟩, ⟨(some 102), .mov (.tmp 2), none, 2, [], true, []⟩, ⟨(some 103), .mov (.tmp 10), none, 2, [], true, []⟩, ⟨(some 104), .iaddr 1 (.tmp 102) (.tmp 103), none, 2, [0, 1], false, []⟩, ⟨(some 105), .load none (.tmp 104), none, 3, [0, 1], false, []⟩, ⟨(some 106), .mov (.tmp 11), none, 4, [], true, []⟩, ⟨(some 107), .call 68 [(.tmp 101), (.tmp 105), (.tmp 106)], none, 4, [], true, []⟩, ⟨(some 108), .mov (.tmp 107), none, 5, [], true, []⟩, ⟨(some 109), .faddr 3 (.tmp 3), (some ((some 108), true)), 5, [9, 10, 11], false, []⟩, ⟨(some 110), .load none (.tmp 109), (some ((some 108), true)), 6, [9, 10, 11], false, []⟩, ⟨(some 111), .mov (.tmp 11), (some ((some 108), true)), 7, [], true, []⟩, ⟨(some 112), .iaddr 1 (.tmp 110) (.tmp 111), (some ((some 108), true)), 7, [9, 10, 11], false, []⟩, ⟨(some 113), .load none (.tmp 112), (some ((some 108), true)), 8, [9, 10, 11], false, []⟩, ⟨(some 114), .mov (.tmp 1), (some ((some 108), true)), 9, [], true, []⟩, ⟨(some 115), .mov (.tmp 10), (some ((some 108), true)), 9, [], true, []⟩, ⟨(some 116), .iaddr 7 (.tmp 114) (.tmp 115), (some ((some 108), true)), 9, [5, 6, 7, 8], false, []⟩, ⟨(some 117), .faddr 3 (.tmp 116), (some ((some 108), true)), 10, [5, 6, 7, 8], false, []⟩, ⟨(some 118), .load none (.tmp 117), (some ((some 108), true)), 11, [5, 6, 7, 8], false, []⟩, ⟨(some 119), .bin false .lss (.tmp 113) (.tmp 118), (some ((some 108), true)), 12, [], true, []⟩, ⟨(some 120), .pick (.tmp 108) (.tmp 119) (.const (.bool false)), none, 12, [], true, []⟩]
def lp_27_7 : ACode := (.seq (.seq (.region [⟨(some 91), .mov (.tmp 11), none, 0, [], true, []⟩, ⟨(some 92), .faddr 2 (.tmp 3), none, 0, [], true, []⟩, ⟨(some 93), .load none (.tmp 92), none, 0, [], true, []⟩, ⟨(some 94), .len false (.tmp 93), none, 0, [], true, []⟩, ⟨(some 95), .bin false .lss (.tmp 91) (.tmp 94), none, 0, [], true, []⟩] 0)
 (.cond (.tmp 95)
 .skip
 (.exit 8)))
 (.seq (.block 9 (.seq (.region rg_27_6 12)
 (.cond (.tmp 120)
 (.seq (.region [⟨(some 121), .mov (.tmp 10), none, 0, [], true, []⟩, ⟨(some 122), .mov (.tmp 11), none, 0, [], true, []⟩, ⟨(some 123), .build [(.val (.int .u8 0)), (.val (.int .i64 0)), (.val (.int .i64 0)), (.val (.int .i64 0))] [(0, 1, (.const (.int .u8 3))), (1, 1, (.tmp 121)), (3, 1, (.tmp 122))], none, 0, [], true, []⟩, ⟨none, .store 4 (.tmp 6) (.tmp 123), none, 0, [], true, []⟩] 0)
 .ret)
 .skip)))
 (.region [⟨(some 96), .mov (.tmp 11), none, 0, [], true, []⟩, ⟨(some 97), .bin false .add (.tmp 96) (.const (.int .i64 1)), none, 0, [], true, []⟩, ⟨(some 11), .mov (.tmp 97), none, 0, [], true, []⟩] 0)))
def rs_27_8 : ACode := (.region [⟨(some 89), .mov (.tmp 10), none, 0, [], true, []⟩, ⟨(some 90), .bin false .add (.tmp 89) (.const (.int .i64 1)), none, 0, [], true, []⟩, ⟨(some 10), .mov (.tmp 90), none, 0, [], true, []⟩] 0)
def lp_27_9 : ACode := (.seq (.seq (.region [⟨(some 85), .mov (.tmp 10), none, 0, [], true, []⟩, ⟨(some 86), .mov (.tmp 1), none, 0, [], true, []⟩, ⟨(some 87), .len false (.tmp 86), none, 0, [], true, []⟩, ⟨(some 88), .bin false .lss (.tmp 85) (.tmp 87), none, 0, [], true, []⟩] 0)
 (.cond (.tmp 88)
 .skip
 (.exit 6)))
 (.seq (.block 7 (.seq (.region [⟨(some 11), .mov (.const (.int .i64 0)), none, 0, [], true, []⟩] 0)
 (.block 8 (.loop lp_27_7))))
 rs_27_8))
def lp_27_10 : ACode := (.seq (.seq (.region [⟨(some 132), .mov (.tmp 13), none, 0, [], true, []⟩, ⟨(some 133), .mov (.tmp 1), none, 0, [], true, []⟩, ⟨(some 134), .len false (.tmp 133), none, 0, [], true, []⟩, ⟨(some 135), .bin false .lss (.tmp 132) (.tmp 134), none, 0, [], true, []⟩] 0)
 (.cond (.tmp 135)
 .skip
 (.exit 12)))
 (.seq (.block 13 (.seq (.region [⟨(some 138), .load (some 4) (.tmp 3), none, 0, [], true, []⟩, ⟨(some 139), .mov (.tmp 1), none, 0, [], true, []⟩, ⟨(some 140), .mov (.tmp 2), none, 0, [], true, []⟩, ⟨(some 141), .mov (.tmp 12), none, 0, [], true, []⟩, ⟨(some 142), .mov (.tmp 13), none, 0, [], true, []⟩, ⟨(some 143), .call 69 [(.tmp 138), (.tmp 139), (.tmp 140), (.tmp 141), (.tmp 142)], none, 0, [], true, []⟩] 1)
 (.cond (.tmp 143)
 (.seq (.region [⟨(some 144), .mov (.tmp 12), none, 0, [], true, []⟩, ⟨(some 145), .mov (.tmp 13), none, 0, [], true, []⟩, ⟨(some 146), .build [(.val (.int .u8 0)), (.val (.int .i64 0)), (.val (.int .i64 0)), (.val (.int .i64 0))] [(0, 1, (.const (.int .u8 4))), (1, 1, (.tmp 144)), (2, 1, (.tmp 145))], none, 0, [], true, []⟩, ⟨none, .store 4 (.tmp 6) (.tmp 146), none, 0, [], true, []⟩] 0)
 .ret)
 .skip)))
 (.region [⟨(some 136), .mov (.tmp 13), none, 0, [], true, []⟩, ⟨(some 137), .bin false .add (.tmp 136) (.const (.int .i64 1)), none, 0, [], true, []⟩, ⟨(some 13), .mov (.tmp 137), none, 0, [], true, []⟩] 0)))
def rs_27_11 : ACode := (.region [⟨(some 128), .mov (.tmp 12), none, 0, [], true, []⟩, ⟨(some 129), .bin false .add (.tmp 128) (.const (.int .i64 1)), none, 0, [], true, []⟩, ⟨(some 12), .mov (.tmp 129), none, 0, [], true, []⟩] 0)
def lp_27_12 : ACode := (.seq (.seq (.region [⟨(some 124), .mov (.tmp 12), none, 0, [], true, []⟩, ⟨(some 125), .mov (.tmp 1), none, 0, [], true, []⟩, ⟨(some 126), .len false (.tmp 125), none, 0, [], true, []⟩, ⟨(some 127), .bin false .lss (.tmp 124) (.tmp 126), none, 0, [], true, []⟩] 0)
 (.cond (.tmp 127)
 .skip
 (.exit 10)))
 (.seq (.block 11 (.seq (.region [⟨(some 130), .mov (.tmp 12), none, 0, [], true, []⟩, ⟨(some 131), .bin false .add (.tmp 130) (.const (.int .i64 1)), none, 0, [], true, []⟩, ⟨(some 13), .mov (.tmp 131), none, 0, [], true, []⟩] 0)
 (.block 12 (.loop lp_27_10))))
 rs_27_11))
def lp_27_13 : ACode := (.seq (.seq (.region [⟨(some 147), .mov (.tmp 14), none, 0, [], true, []⟩, ⟨(some 148), .faddr 2 (.tmp 3), none, 0, [], true, []⟩, ⟨(some 149), .load none (.tmp 148), none, 0, [], true, []⟩, ⟨(some 150), .len false (.tmp 149), none, 0, [], true, []⟩, ⟨(some 151), .bin false .lss (.tmp 147) (.tmp 150), none, 0, [], true, []⟩] 0)
 (.cond (.tmp 151)
 .skip
 (.exit 14)))
 (.seq (.block 15 (.seq (.region [⟨(some 154), .mov (.tmp 1), none, 0, [], true, []⟩, ⟨(some 155), .mov (.tmp 2), none, 0, [], true, []⟩, ⟨(some 156), .mov (.tmp 14), none, 0, [], true, []⟩, ⟨(some 157), .call 31 [(.tmp 154), (.tmp 155), (.tmp 156)], none, 0, [1, 2], false, []⟩, ⟨(some 158), .faddr 0 (.tmp 3), none, 1, [0], false, []⟩, ⟨(some 159), .load none (.tmp 158), none, 2, [0], false, []⟩, ⟨(some 160), .bin false .gtr (.tmp 157) (.tmp 159), none, 3, [], true, []⟩] 3)
 (.cond (.tmp 160)
 (.seq (.region [⟨(some 161), .mov (.tmp 14), none, 0, [], true, []⟩, ⟨(some 162), .build [(.val (.int .u8 0)), (.val (.int .i64 0)), (.val (.int .i64 0)), (.val (.int .i64 0))] [(0, 1, (.const (.int .u8 5))), (3, 1, (.tmp 161))], none, 0, [], true, []⟩, ⟨none, .store 4 (.tmp 6) (.tmp 162), none, 0, [], true, []⟩] 0)
 .ret)
 .skip)))
 (.region [⟨(some 152), .mov (.tmp 14), none, 0, [], true, []⟩, ⟨(some 153), .bin false .add (.tmp 152) (.const (.int .i64 1)), none, 0, [], true, []⟩, ⟨(some 14), .mov (.tmp 153), none, 0, [], true, []⟩] 0)))
def rs_27_14 : ACode := (.seq (.region [⟨(some 163), .build [(.val (.int .u8 0)), (.val (.int .i64 0)), (.val (.int .i64 0)), (.val (.int .i64 0))] [], none, 0, [], true, []⟩, ⟨none, .store 4 (.tmp 6) (.tmp 163), none, 0, [], true, []⟩] 0)
 .ret)
def rs_27_15 : ACode := (.seq (.seq (.region [⟨(some 14), .mov (.const (.int .i64 0)), none, 0, [], true, []⟩] 0)
 (.block 14 (.loop lp_27_13)))
 rs_27_14)
def rs_27_16 : ACode := (.seq (.seq (.region [⟨(some 12), .mov (.const (.int .i64 0)), none, 0, [], true, []⟩] 0)
 (.block 10 (.loop lp_27_12)))
 rs_27_15)
def rs_27_17 : ACode := (.seq (.seq (.region [⟨(some 10), .mov (.const (.int .i64 0)), none, 0, [], true, []⟩] 0)
 (.block 6 (.loop lp_27_9)))
 rs_27_16)
def rs_27_18 : ACode := (.seq (.seq (.region [⟨(some 8), .mov (.const (.int .i64 0)), none, 0, [], true, []⟩] 0)
 (.block 2 (.loop lp_27_5)))
 rs_27_17)
def af_27 : AFun := ⟨164, [.inr (6, (some 4))], (.seq (.region [⟨(some 3), .box 4 (.tmp 0), none, 0, [], true, []⟩, ⟨(some 6), .zero [(.val (.int .u8 0)), (.val (.int .i64 0)), (.val (.int .i64 0)), (.val (.int .i64 0))], none, 1, [], true, []⟩] 2)
 (.seq (.seq (.region [⟨(some 7), .mov (.const (.int .i64 0)), none, 0, [], true, []⟩] 0)
 (.block 0 (.loop lp_27_1)))
 rs_27_18))⟩
def rg_68_0 : List AOper := [⟨(some 7), .mov (.tmp 2), none, 0, [], true, []⟩, ⟨(some 8), .mov (.tmp 1), none, 0, [], true, []⟩, ⟨(some 9), .bin false .geq (.tmp 7) (.tmp 8), none, 0, [], true, []⟩, ⟨(some 10), .mov (.tmp 9), none, 0, [], true, []⟩, ⟨(some 11), .mov (.tmp 2), (some ((some 10), true)), 0, [], true, []⟩, ⟨(some 12), .mov (.tmp 1), (some ((some 10), true)), 0, [], true, []⟩, ⟨(some 13), .bin false .sub (.tmp 11) (.tmp 12), (some ((some 10), true)), 0, [], true, []⟩, ⟨(some 14), .faddr 2 (.tmp 3), (some ((some 10), true)), 0, [], true, []⟩, ⟨(some 15), .load none (.tmp 14), (some ((some 10), true)), 0, [], true, []⟩, ⟨(some 16), .bin false .lss (.tmp 13) (.tmp 15), (some ((some 10), true)), 0, [], true, []⟩, ⟨(some 17), .pick (.tmp 10) (.tmp 16) (.const (.bool false)), none, 0, [], true, []⟩, ⟨(some 6), .mov (.tmp 17), none, 0, [], true, []⟩]
def af_68 : AFun := ⟨18, [.inl 6], (.seq (.region [⟨(some 3), .box 7 (.tmp 0), none, 0, [], true, []⟩, ⟨(some 6), .mov (.const (.bool false)), none, 1, [], true, []⟩] 1)
 (.seq (.region rg_68_0 0)
 .ret))⟩
def rg_70_0 : List AOper := [⟨(some 7), .mov (.tmp 2), none, 0, [], true, []⟩, ⟨(some 8), .mov (.tmp 1), none, 0, [], true, []⟩, ⟨(some 9), .bin false .lss (.tmp 7) (.tmp 8), none, 0, [], true, []⟩, ⟨(some 10), .mov (.tmp 9), none, 0, [], true, []⟩, ⟨(some 11), .mov (.tmp 1), (some ((some 10), true)), 0, [], true, []⟩, ⟨(some 12), .mov (.tmp 2), (some ((some 10), true)), 0, [], true, []⟩, ⟨(some 13), .bin false .sub (.tmp 11) (.tmp 12), (some ((some 10), true)), 0, [], true, []⟩, ⟨(some 14), .faddr 1 (.tmp 3), (some ((some 10), true)), 0, [], true, []⟩, ⟨(some 15), .load none (.tmp 14), (some ((some 10), true)), 0, [], true, []⟩, ⟨(some 16), .bin false .leq (.tmp 13) (.tmp 15), (some ((some 10), true)), 0, [], true, []⟩, ⟨(some 17), .pick (.tmp 10) (.tmp 16) (.const (.bool false)), none, 0, [], true, []⟩, ⟨(some 6), .mov (.tmp 17), none, 0, [], true, []⟩]
def af_70 : AFun := ⟨18, [.inl 6], (.seq (.region [⟨(some 3), .box 7 (.tmp 0), none, 0, [], true, []⟩, ⟨(some 6), .mov (.const (.bool false)), none, 1, [], true, []⟩] 1)
 (.seq (.region rg_70_0 0)
 .ret))⟩
def rg_57_0 : List AOper := [⟨(some 33), .mov (.tmp 9), none, 0, [], true, []⟩, ⟨(some 34), .mov (.tmp 10), none, 0, [], true, []⟩, ⟨(some 35), .load (some 7) (.tmp 11), none, 0, [1, 2], false, []⟩, ⟨(some 36), .mov (.tmp 2), none, 1, [], true, []⟩, ⟨(some 37), .mov (.tmp 10), none, 1, [], true, []⟩, ⟨(some 38), .iaddr 1 (.tmp 36) (.tmp 37), none, 1, [0], false, []⟩, ⟨(some 39), .load none (.tmp 38), none, 2, [0], false, []⟩, ⟨(some 40), .build [(.val (.int .i64 0)), (.val (.int .i64 0)), (.val (.int .i64 0)), (.val (.int .i64 0)), (.val (.int .i64 0)), (.val (.int .i64 0)), (.val (.int .i64 0)), (.val (.int .i64 0))] [(0, 7, (.tmp 35)), (7, 1, (.tmp 39))], none, 3, [], true, []⟩, ⟨(some 41), .iaddr 8 (.tmp 33) (.tmp 34), none, 3, [], true, []⟩, ⟨none, .store 8 (.tmp 41) (.tmp 40), none, 4, [], true, []⟩]
def lp_57_1 : ACode := (.seq (.region [⟨(some 29), .bin false .lss (.tmp 28) (.tmp 27), none, 0, [], true, []⟩] 0)
 (.seq (.cond (.tmp 29)
 .skip
 (.exit 0))
 (.seq (.block 1 (.seq (.region [⟨(some 30), .mov (.tmp 28), none, 0, [], true, []⟩, ⟨(some 31), .iaddr 7 (.tmp 26) (.tmp 28), none, 0, [], true, []⟩, ⟨(some 32), .load (some 7) (.tmp 31), none, 0, [], true, []⟩, ⟨(some 11), .zero [(.val (.int .i64 0)), (.val (.int .i64 0)), (.val (.int .i64 0)), (.val (.int .i64 0)), (.val (.int .i64 0)), (.val (.int .i64 0)), (.val (.int .i64 0))], none, 0, [], true, []⟩, ⟨(some 10), .mov (.tmp 30), none, 1, [], true, []⟩, ⟨none, .store 7 (.tmp 11) (.tmp 32), none, 1, [], true, []⟩] 1)
 (.region rg_57_0 5)))
 (.region [⟨(some 42), .bin false .add (.tmp 28) (.const (.int .i64 1)), none, 0, [], true, []⟩, ⟨(some 28), .mov (.tmp 42), none, 0, [], true, []⟩] 0))))
def rs_57_2 : ACode := (.seq (.region [⟨(some 43), .mov (.tmp 9), none, 0, [], true, []⟩, ⟨(some 6), .mov (.tmp 43), none, 0, [], true, []⟩, ⟨(some 7), .mov (.const (.int .i64 0)), none, 0, [], true, []⟩] 0)
 .ret)
def af_57 : AFun := ⟨44, [.inl 6, .inl 7], (.seq (.region [⟨(some 3), .box 4 (.tmp 0), none, 0, [], true, []⟩, ⟨(some 6), .mov (.const (.slice none 0 0)), none, 1, [], true, []⟩, ⟨(some 7), .mov (.const (.int .i64 0)), none, 1, [], true, []⟩] 1)
 (.seq (.seq (.region [⟨(some 12), .load (some 4) (.tmp 3), none, 0, [], true, []⟩, ⟨(some 13), .mov (.tmp 1), none, 0, [], true, []⟩, ⟨(some 14), .call 18 [(.tmp 12), (.tmp 13)], none, 0, [], true, []⟩, ⟨(some 8), .mov (.tmp 14), none, 1, [], true, []⟩] 1)
 (.seq (.region [⟨(some 15), .mov (.tmp 8), none, 0, [], true, []⟩, ⟨(some 16), .bin false .neq (.tmp 15) (.const (.int .i64 0)), none, 0, [], true, []⟩] 0)
 (.cond (.tmp 16)
 (.seq (.region [⟨(some 17), .mov (.tmp 8), none, 0, [], true, []⟩, ⟨(some 6), .mov (.const (.slice none 0 0)), none, 0, [], true, []⟩, ⟨(some 7), .mov (.tmp 17), none, 0, [], true, []⟩] 0)
 .ret)
 .skip)))
 (.seq (.seq (.region [⟨(some 18), .mov (.tmp 2), none, 0, [], true, []⟩, ⟨(some 19), .len false (.tmp 18), none, 0, [], true, []⟩, ⟨(some 20), .mov (.tmp 1), none, 0, [], true, []⟩, ⟨(some 21), .len false (.tmp 20), none, 0, [], true, []⟩, ⟨(some 22), .bin false .neq (.tmp 19) (.tmp 21), none, 0, [], true, []⟩] 0)
 (.cond (.tmp 22)
 (.seq (.region [⟨(some 6), .mov (.const (.slice none 0 0)), none, 0, [], true, []⟩, ⟨(some 7), .mov (.const (.int .i64 5)), none, 0, [], true, []⟩] 0)
 .ret)
 .skip))
 (.seq (.region [⟨(some 23), .mov (.tmp 1), none, 0, [], true, []⟩, ⟨(some 24), .len false (.tmp 23), none, 0, [], true, []⟩, ⟨(some 25), .mkSlice 8 64 [(.val (.int .i64 0)), (.val (.int .i64 0)), (.val (.int .i64 0)), (.val (.int .i64 0)), (.val (.int .i64 0)), (.val (.int .i64 0)), (.val (.int .i64 0)), (.val (.int .i64 0))] (.tmp 24) (.tmp 24), none, 0, [], true, []⟩, ⟨(some 9), .mov (.tmp 25), none, 1, [], true, []⟩] 1)
 (.seq (.seq (.region [⟨(some 26), .mov (.tmp 1), none, 0, [], true, []⟩, ⟨(some 27), .len false (.tmp 26), none, 0, [], true, []⟩, ⟨(some 28), .mov (.const (.int .i64 0)), none, 0, [], true, []⟩] 0)
 (.block 0 (.loop lp_57_1)))
 rs_57_2)))))⟩
def af_71 : AFun := ⟨3, [.inl 2], (.seq (.region [⟨(some 1), .box 8 (.tmp 0), none, 0, [], true, []⟩, ⟨(some 2), .mov (.const (.bool false)), none, 1, [], true, []⟩] 1)
 (.seq (.region [⟨(some 2), .mov (.const (.bool true)), none, 0, [], true, []⟩] 0)
 .ret))⟩
def lp_72_0 : ACode := (.seq (.region [⟨(some 25), .bin false .lss (.tmp 24) (.tmp 23), none, 0, [], true, []⟩] 0)
 (.seq (.cond (.tmp 25)
 .skip
 (.exit 0))
 (.seq (.block 1 (.seq (.region [⟨(some 26), .mov (.tmp 24), none, 0, [], true, []⟩, ⟨(some 27), .iaddr 8 (.tmp 22) (.tmp 24), none, 0, [], true, []⟩, ⟨(some 28), .load (some 8) (.tmp 27), none, 0, [], true, []⟩, ⟨(some 13), .zero [(.val (.int .i64 0)), (.val (.int .i64 0)), (.val (.int .i64 0)), (.val (.int .i64 0)), (.val (.int .i64 0)), (.val (.int .i64 0)), (.val (.int .i64 0)), (.val (.int .i64 0))], none, 0, [], true, []⟩, ⟨(some 12), .mov (.tmp 26), none, 1, [], true, []⟩, ⟨none, .store 8 (.tmp 13) (.tmp 28), none, 1, [], true, []⟩] 1)
 (.seq (.region [⟨(some 29), .mov (.tmp 2), none, 0, [], true, []⟩, ⟨(some 30), .load (some 8) (.tmp 13), none, 0, [], true, []⟩, ⟨(some 31), .callv (.tmp 29) [(.tmp 30)], none, 0, [], true, []⟩] 1)
 (.cond (.tmp 31)
 (.region [⟨(some 32), .faddr 5 (.tmp 11), none, 0, [], true, []⟩, ⟨(some 33), .load none (.tmp 32), none, 0, [], true, []⟩, ⟨(some 34), .mov (.tmp 12), none, 0, [], true, []⟩, ⟨(some 35), .bslice 1 1 [(.val (.int .i64 0))] [(0, (.tmp 34))], none, 0, [], true, []⟩, ⟨(some 36), .append 1 (.tmp 33) (.tmp 35), none, 1, [], true, []⟩, ⟨(some 37), .faddr 5 (.tmp 11), none, 2, [], true, []⟩, ⟨none, .store 1 (.tmp 37) (.tmp 36), none, 2, [], true, []⟩] 2)
 .skip))))
 (.region [⟨(some 38), .bin false .add (.tmp 24) (.const (.int .i64 1)), none, 0, [], true, []⟩, ⟨(some 24), .mov (.tmp 38), none, 0, [], true, []⟩] 0))))
def rg_72_1 : List AOper := [⟨(some 47), .load (some 4) (.tmp 4), none, 0, [], true, []⟩, ⟨(some 48), .mov (.tmp 14), none, 0, [], true, []⟩, ⟨(some 49), .call 91 [(.tmp 47), (.tmp 48)], none, 0, [], true, []⟩, ⟨(some 50), .un .not (.tmp 49), none, 1, [], true, []⟩, ⟨(some 51), .mov (.tmp 50), none, 1, [], true, []⟩, ⟨(some 52), .mov (.tmp 14), (some ((some 51), false)), 1, [], true, []⟩, ⟨(some 53), .mov (.tmp 3), (some ((some 51), false)), 1, [], true, []⟩, ⟨(some 54), .call 97 [(.tmp 11), (.tmp 52), (.tmp 53)], (some ((some 51), false)), 1, [], true, []⟩, ⟨(some 55), .un .not (.tmp 54), (some ((some 51), false)), 2, [], true, []⟩, ⟨(some 56), .pick (.tmp 51) (.const (.bool true)) (.tmp 55), none, 2, [], true, []⟩]
def lp_72_2 : ACode := (.seq (.region [⟨(some 70), .bin false .lss (.tmp 69) (.tmp 68), none, 0, [], true, []⟩] 0)
 (.seq (.cond (.tmp 70)
 .skip
 (.exit 2))
 (.seq (.block 3 (.seq (.region [⟨(some 71), .mov (.tmp 69), none, 0, [], true, []⟩, ⟨(some 72), .iaddr 8 (.tmp 67) (.tmp 69), none, 0, [], true, []⟩, ⟨(some 73), .load (some 8) (.tmp 72), none, 0, [], true, []⟩, ⟨(some 17), .zero [(.val (.int .i64 0)), (.val (.int .i64 0)), (.val (.int .i64 0)), (.val (.int .i64 0)), (.val (.int .i64 0)), (.val (.int .i64 0)), (.val (.int .i64 0)), (.val (.int .i64 0))], none, 0, [], true, []⟩, ⟨(some 16), .mov (.tmp 71), none, 1, [], true, []⟩, ⟨none, .store 8 (.tmp 17) (.tmp 73), none, 1, [], true, []⟩] 1)
 (.region [⟨(some 74), .mov (.tmp 15), none, 0, [], true, []⟩, ⟨(some 75), .mov (.tmp 16), none, 0, [], true, []⟩, ⟨(some 76), .faddr 7 (.tmp 17), none, 0, [], true, []⟩, ⟨(some 77), .load none (.tmp 76), none, 0, [], true, []⟩, ⟨(some 78), .iaddr 1 (.tmp 74) (.tmp 75), none, 0, [], true, []⟩, ⟨none, .store 1 (.tmp 78) (.tmp 77), none, 0, [], true, []⟩] 0)))
 (.region [⟨(some 79), .bin false .add (.tmp 69) (.const (.int .i64 1)), none, 0, [], true, []⟩, ⟨(some 69), .mov (.tmp 79), none, 0, [], true, []⟩] 0))))
def rs_72_3 : ACode := (.seq (.region [⟨(some 80), .mov (.tmp 15), none, 0, [], true, []⟩, ⟨(some 81), .faddr 10 (.tmp 11), none, 0, [], true, []⟩, ⟨(some 82), .load none (.tmp 81), none, 1, [], true, []⟩, ⟨(some 8), .mov (.tmp 80), none, 2, [], true, []⟩, ⟨(some 9), .mov (.tmp 82), none, 2, [], true, []⟩, ⟨(some 10), .mov (.const (.int .i64 0)), none, 2, [], true, []⟩] 2)
 .ret)
def rs_72_4 : ACode := (.seq (.seq (.region [⟨(some 39), .faddr 5 (.tmp 11), none, 0, [], true, []⟩, ⟨(some 40), .load none (.tmp 39), none, 0, [], true, []⟩, ⟨(some 41), .len false (.tmp 40), none, 0, [], true, []⟩, ⟨(some 42), .bin false .gtr (.tmp 41) (.const (.int .i64 4)), none, 0, [], true, []⟩] 0)
 (.cond (.tmp 42)
 (.seq (.region [⟨(some 8), .mov (.const (.slice none 0 0)), none, 0, [], true, []⟩, ⟨(some 9), .mov (.const (.int .i64 0)), none, 0, [], true, []⟩, ⟨(some 10), .mov (.const (.int .i64 5)), none, 0, [], true, []⟩] 0)
 .ret)
 .skip))
 (.seq (.region [⟨(some 43), .mov (.tmp 1), none, 0, [], true, []⟩, ⟨(some 44), .call 95 [(.tmp 43)], none, 0, [], true, []⟩, ⟨(some 45), .mov (.tmp 2), none, 1, [], true, []⟩, ⟨(some 46), .call 96 [(.tmp 44), (.tmp 45)], none, 1, [], true, []⟩, ⟨(some 14), .mov (.tmp 46), none, 2, [], true, []⟩] 2)
 (.seq (.seq (.region rg_72_1 2)
 (.cond (.tmp 56)
 (.seq (.region [⟨(some 8), .mov (.const (.slice none 0 0)), none, 0, [], true, []⟩, ⟨(some 9), .mov (.const (.int .i64 0)), none, 0, [], true, []⟩, ⟨(some 10), .mov (.const (.int .i64 101)), none, 0, [], true, []⟩] 0)
 .ret)
 .skip))
 (.seq (.region [⟨(some 57), .mov (.tmp 14), none, 0, [], true, []⟩, ⟨(some 58), .call 60 [(.tmp 57)], none, 0, [], true, []⟩, ⟨(some 59), .call 98 [(.tmp 11), (.const (.int .i64 0)), (.tmp 58)], none, 1, [], true, []⟩] 2)
 (.seq (.seq (.region [⟨(some 60), .faddr 9 (.tmp 11), none, 0, [], true, []⟩, ⟨(some 61), .load none (.tmp 60), none, 0, [], true, []⟩, ⟨(some 62), .eqNil 0 .eql (.tmp 61) (.const (.slice none 0 0)), none, 0, [], true, []⟩] 0)
 (.cond (.tmp 62)
 (.seq (.region [⟨(some 8), .mov (.const (.slice none 0 0)), none, 0, [], true, []⟩, ⟨(some 9), .mov (.const (.int .i64 0)), none, 0, [], true, []⟩, ⟨(some 10), .mov (.const (.int .i64 101)), none, 0, [], true, []⟩] 0)
 .ret)
 .skip))
 (.seq (.region [⟨(some 63), .mov (.tmp 1), none, 0, [], true, []⟩, ⟨(some 64), .len false (.tmp 63), none, 0, [], true, []⟩, ⟨(some 65), .mkSlice 1 8 [(.val (.int .i64 0))] (.tmp 64) (.tmp 64), none, 0, [], true, []⟩, ⟨(some 15), .mov (.tmp 65), none, 1, [], true, []⟩] 1)
 (.seq (.seq (.region [⟨(some 66), .faddr 9 (.tmp 11), none, 0, [], true, []⟩, ⟨(some 67), .load none (.tmp 66), none, 0, [], true, []⟩, ⟨(some 68), .len false (.tmp 67), none, 0, [], true, []⟩, ⟨(some 69), .mov (.const (.int .i64 0)), none, 0, [], true, []⟩] 0)
 (.block 2 (.loop lp_72_2)))
 rs_72_3)))))))
def af_72 : AFun := ⟨83, [.inl 8, .inl 9, .inl 10], (.seq (.region [⟨(some 4), .box 4 (.tmp 0), none, 0, [], true, []⟩, ⟨(some 8), .mov (.const (.slice none 0 0)), none, 1, [], true, []⟩, ⟨(some 9), .mov (.const (.int .i64 0)), none, 1, [], true, []⟩, ⟨(some 10), .mov (.const (.int .i64 0)), none, 1, [], true, []⟩] 1)
 (.seq (.region [⟨(some 18), .load (some 4) (.tmp 4), none, 0, [1, 2], false, []⟩, ⟨(some 19), .mov (.tmp 1), none, 1, [], true, []⟩, ⟨(some 20), .call 95 [(.tmp 19)], none, 1, [0, 2], false, []⟩, ⟨(some 21), .build [(.val (.int .i64 0)), (.val (.int .i64 0)), (.val (.slice none 0 0)), (.val (.slice none 0 0)), (.val (.slice none 0 0)), (.val (.slice none 0 0)), (.val (.slice none 0 0)), (.val (.slice none 0 0)), (.val (.slice none 0 0)), (.val (.slice none 0 0)), (.val (.int .i64 0))] [(0, 4, (.tmp 18)), (4, 1, (.tmp 20))], none, 2, [], true, []⟩, ⟨(some 11), .zero [(.val (.int .i64 0)), (.val (.int .i64 0)), (.val (.slice none 0 0)), (.val (.slice none 0 0)), (.val (.slice none 0 0)), (.val (.slice none 0 0)), (.val (.slice none 0 0)), (.val (.slice none 0 0)), (.val (.slice none 0 0)), (.val (.slice none 0 0)), (.val (.int .i64 0))], none, 2, [0, 1], false, []⟩, ⟨none, .store 11 (.tmp 11) (.tmp 21), none, 3, [], true, []⟩] 4)
 (.seq (.seq (.region [⟨(some 22), .mov (.tmp 1), none, 0, [], true, []⟩, ⟨(some 23), .len false (.tmp 22), none, 0, [], true, []⟩, ⟨(some 24), .mov (.const (.int .i64 0)), none, 0, [], true, []⟩] 0)
 (.block 0 (.loop lp_72_0)))
 rs_72_4)))⟩
def lp_58_0 : ACode := (.seq (.region [⟨(some 22), .bin false .lss (.tmp 21) (.tmp 20), none, 0, [], true, []⟩] 0)
 (.seq (.cond (.tmp 22)
 .skip
 (.exit 0))
 (.seq (.block 1 (.seq (.region [⟨(some 23), .iaddr 1 (.tmp 19) (.tmp 21), none, 0, [], true, []⟩, ⟨(some 24), .load none (.tmp 23), none, 0, [], true, []⟩, ⟨(some 9), .mov (.tmp 24), none, 0, [], true, []⟩] 0)
 (.seq (.region [⟨(some 25), .mov (.tmp 9), none, 0, [], true, []⟩, ⟨(some 26), .callv (.tmp 25) [], none, 0, [], true, []⟩, ⟨(some 10), .zero [(.val (.int .u8 0)), (.val (.int .i64 0)), (.val (.int .i64 0)), (.val (.int .i64 0))], none, 1, [], true, []⟩, ⟨none, .store 4 (.tmp 10) (.tmp 26), none, 2, [], true, []⟩] 2)
 (.seq (.region [⟨(some 27), .faddr 0 (.tmp 10), none, 0, [], true, []⟩, ⟨(some 28), .load none (.tmp 27), none, 0, [], true, []⟩, ⟨(some 29), .bin false .neq (.tmp 28) (.const (.int .u8 0)), none, 0, [], true, []⟩] 0)
 (.cond (.tmp 29)
 (.seq (.region [⟨(some 30), .load (some 4) (.tmp 10), none, 0, [], true, []⟩, ⟨none, .store 4 (.tmp 4) (.tmp 30), none, 0, [], true, []⟩] 0)
 .ret)
 .skip)))))
 (.region [⟨(some 31), .bin false .add (.tmp 21) (.const (.int .i64 1)), none, 0, [], true, []⟩, ⟨(some 21), .mov (.tmp 31), none, 0, [], true, []⟩] 0))))
def rs_58_1 : ACode := (.seq (.region [⟨(some 32), .build [(.val (.int .u8 0)), (.val (.int .i64 0)), (.val (.int .i64 0)), (.val (.int .i64 0))] [], none, 0, [], true, []⟩, ⟨none, .store 4 (.tmp 4) (.tmp 32), none, 0, [], true, []⟩] 0)
 .ret)
def af_58 : AFun := ⟨33, [.inr (4, (some 4))], (.seq (.region [⟨(some 2), .box 4 (.tmp 0), none, 0, [], true, []⟩, ⟨(some 3), .box 1 (.tmp 1), none, 1, [], true, []⟩, ⟨(some 4), .zero [(.val (.int .u8 0)), (.val (.int .i64 0)), (.val (.int .i64 0)), (.val (.int .i64 0))], none, 2, [], true, []⟩] 3)
 (.seq (.region [⟨(some 11), .mkFn 80 [] [(.tmp 2)], none, 0, [], true, []⟩, ⟨(some 5), .zero [(.val .nilFunc)], none, 0, [], true, []⟩, ⟨none, .store 1 (.tmp 5) (.tmp 11), none, 1, [], true, []⟩] 1)
 (.seq (.region [⟨(some 12), .mkFn 81 [] [(.tmp 2)], none, 0, [], true, []⟩, ⟨(some 6), .zero [(.val .nilFunc)], none, 0, [], true, []⟩, ⟨none, .store 1 (.tmp 6) (.tmp 12), none, 1, [], true, []⟩] 1)
 (.seq (.region [⟨(some 13), .mkFn 82 [] [(.tmp 3)], none, 0, [], true, []⟩, ⟨(some 14), .mkFn 84 [] [(.tmp 3), (.tmp 5)], none, 0, [], true, []⟩, ⟨(some 15), .mkFn 86 [] [(.tmp 3), (.tmp 6)], none, 0, [], true, []⟩, ⟨(some 16), .mkFn 87 [] [(.tmp 2), (.tmp 3)], none, 0, [], true, []⟩, ⟨(some 17), .mkFn 89 [] [(.tmp 2), (.tmp 3)], none, 0, [], true, []⟩, ⟨(some 18), .bslice 1 5 [(.val .nilFunc)] [(0, (.tmp 13)), (1, (.tmp 14)), (2, (.tmp 15)), (3, (.tmp 16)), (4, (.tmp 17))], none, 0, [], true, []⟩, ⟨(some 7), .mov (.tmp 18), none, 1, [], true, []⟩] 1)
 (.seq (.seq (.region [⟨(some 19), .mov (.tmp 7), none, 0, [], true, []⟩, ⟨(some 20), .len false (.tmp 19), none, 0, [], true, []⟩, ⟨(some 21), .mov (.const (.int .i64 0)), none, 0, [], true, []⟩] 0)
 (.block 0 (.loop lp_58_0)))
 rs_58_1)))))⟩
def af_91 : AFun := ⟨10, [.inl 4], (.seq (.region [⟨(some 2), .box 4 (.tmp 0), none, 0, [], true, []⟩, ⟨(some 4), .mov (.const (.bool false)), none, 1, [], true, []⟩] 1)
 (.seq (.region [⟨(some 5), .load (some 4) (.tmp 2), none, 0, [], true, []⟩, ⟨(some 6), .mov (.tmp 1), none, 0, [], true, []⟩, ⟨(some 7), .call 58 [(.tmp 5), (.tmp 6)], none, 0, [], true, []⟩, ⟨(some 8), .field none 0 (.tmp 7), none, 1, [], true, []⟩, ⟨(some 9), .bin false .eql (.tmp 8) (.const (.int .u8 0)), none, 1, [], true, []⟩, ⟨(some 4), .mov (.tmp 9), none, 1, [], true, []⟩] 1)
 .ret))⟩
def rg_100_0 : List AOper := [⟨(some 5), .faddr 0 (.tmp 3), none, 0, [3], false, []⟩, ⟨(some 6), .faddr 0 (.tmp 5), none, 1, [3], false, []⟩, ⟨(some 7), .load none (.tmp 6), none, 2, [3], false, []⟩, ⟨(some 8), .load none (.tmp 1), none, 3, [0, 1, 2], false, []⟩, ⟨(some 9), .bin false .eql (.tmp 7) (.tmp 8), none, 4, [], true, []⟩, ⟨(some 10), .mov (.tmp 9), none, 4, [], true, []⟩, ⟨(some 11), .faddr 7 (.tmp 3), (some ((some 10), true)), 4, [6, 7, 8], false, []⟩, ⟨(some 12), .load none (.tmp 11), (some ((some 10), true)), 5, [6, 7, 8], false, []⟩, ⟨(some 13), .load none (.tmp 2), (some ((some 10), true)), 6, [4, 5, 7, 8], false, []⟩, ⟨(some 14), .load (some 8) (.tmp 3), (some ((some 10), true)), 7, [4, 5, 6], false, []⟩, ⟨(some 15), .call 99 [(.tmp 14)], (some ((some 10), true)), 8, [4, 5, 6], false, []⟩, ⟨(some 16), .bin false .sub (.tmp 15) (.const (.int .i64 1)), (some ((some 10), true)), 9, [], true, []⟩, ⟨(some 17), .call 49 [(.tmp 12), (.tmp 13), (.tmp 16)], (some ((some 10), true)), 9, [], true, []⟩, ⟨(some 18), .pick (.tmp 10) (.tmp 17) (.const (.bool false)), none, 10, [], true, []⟩, ⟨(some 4), .mov (.tmp 18), none, 10, [], true, []⟩]
def af_100 : AFun := ⟨19, [.inl 4], (.seq (.region [⟨(some 3), .box 8 (.tmp 0), none, 0, [], true, []⟩, ⟨(some 4), .mov (.const (.bool false)), none, 1, [], true, []⟩] 1)
 (.seq (.region rg_100_0 10)
 .ret))⟩
def rg_101_0 : List AOper := [⟨(some 5), .faddr 0 (.tmp 3), none, 0, [3], false, []⟩, ⟨(some 6), .faddr 0 (.tmp 5), none, 1, [3], false, []⟩, ⟨(some 7), .load none (.tmp 6), none, 2, [3], false, []⟩, ⟨(some 8), .load none (.tmp 1), none, 3, [0, 1, 2], false, []⟩, ⟨(some 9), .bin false .eql (.tmp 7) (.tmp 8), none, 4, [], true, []⟩, ⟨(some 10), .mov (.tmp 9), none, 4, [], true, []⟩, ⟨(some 11), .load (some 8) (.tmp 3), (some ((some 10), true)), 4, [6, 7, 8], false, []⟩, ⟨(some 12), .call 65 [(.tmp 11)], (some ((some 10), true)), 5, [6, 7, 8], false, []⟩, ⟨(some 13), .load none (.tmp 2), (some ((some 10), true)), 6, [4, 5, 7, 8], false, []⟩, ⟨(some 14), .faddr 7 (.tmp 3), (some ((some 10), true)), 7, [4, 5, 6], false, []⟩, ⟨(some 15), .load none (.tmp 14), (some ((some 10), true)), 8, [4, 5, 6], false, []⟩, ⟨(some 16), .bin false .sub (.tmp 15) (.const (.int .i64 1)), (some ((some 10), true)), 9, [], true, []⟩, ⟨(some 17), .call 49 [(.tmp 12), (.tmp 13), (.tmp 16)], (some ((some 10), true)), 9, [], true, []⟩, ⟨(some 18), .pick (.tmp 10) (.tmp 17) (.const (.bool false)), none, 10, [], true, []⟩, ⟨(some 4), .mov (.tmp 18), none, 10, [], true, []⟩]
def af_101 : AFun := ⟨19, [.inl 4], (.seq (.region [⟨(some 3), .box 8 (.tmp 0), none, 0, [], true, []⟩, ⟨(some 4), .mov (.const (.bool false)), none, 1, [], true, []⟩] 1)
 (.seq (.region rg_101_0 10)
 .ret))⟩
def rg_102_0 : List AOper := [⟨(some 6), .faddr 0 (.tmp 4), none, 0, [3], false, []⟩, ⟨(some 7), .faddr 0 (.tmp 6), none, 1, [3], false, []⟩, ⟨(some 8), .load none (.tmp 7), none, 2, [3], false, []⟩, ⟨(some 9), .load none (.tmp 1), none, 3, [0, 1, 2], false, []⟩, ⟨(some 10), .bin false .neq (.tmp 8) (.tmp 9), none, 4, [], true, []⟩, ⟨(some 11), .mov (.tmp 10), none, 4, [], true, []⟩, ⟨(some 12), .faddr 7 (.tmp 4), (some ((some 11), true)), 4, [6, 7, 8, 9, 10, 11, 12], false, []⟩, ⟨(some 13), .load none (.tmp 12), (some ((some 11), true)), 5, [6, 7, 8, 9, 10, 11, 12], false, []⟩, ⟨(some 14), .faddr 1 (.tmp 2), (some ((some 11), true)), 6, [4, 5, 8, 9, 10, 11, 12], false, []⟩, ⟨(some 15), .load none (.tmp 14), (some ((some 11), true)), 7, [4, 5, 8, 9, 10, 11, 12], false, []⟩, ⟨(some 16), .bin false .sub (.tmp 13) (.tmp 15), (some ((some 11), true)), 8, [], true, []⟩, ⟨(some 17), .load none (.tmp 3), (some ((some 11), true)), 8, [4, 5, 6, 7, 9, 10, 11, 12], false, []⟩, ⟨(some 18), .load (some 8) (.tmp 4), (some ((some 11), true)), 9, [4, 5, 6, 7, 8, 11, 12], false, []⟩, ⟨(some 19), .call 99 [(.tmp 18)], (some ((some 11), true)), 10, [4, 5, 6, 7, 8, 11, 12], false, []⟩, ⟨(some 20), .faddr 1 (.tmp 2), (some ((some 11), true)), 11, [4, 5, 6, 7, 8, 9, 10], false, []⟩, ⟨(some 21), .load none (.tmp 20), (some ((some 11), true)), 12, [4, 5, 6, 7, 8, 9, 10], false, []⟩, ⟨(some 22), .bin false .add (.tmp 19) (.tmp 21), (some ((some 11), true)), 13, [], true, []⟩, ⟨(some 23), .bin false .sub (.tmp 22) (.const (.int .i64 1)), (some ((some 11), true)), 13, [], true, []⟩, ⟨(some 24), .call 49 [(.tmp 16), (.tmp 17), (.tmp 23)], (some ((some 11), true)), 13, [], true, []⟩, ⟨(some 25), .pick (.tmp 11) (.tmp 24) (.const (.bool false)), none, 14, [], true, []⟩, ⟨(some 5), .mov (.tmp 25), none, 14, [], true, []⟩]
def af_102 : AFun := ⟨26, [.inl 5], (.seq (.region [⟨(some 4), .box 8 (.tmp 0), none, 0, [], true, []⟩, ⟨(some 5), .mov (.const (.bool false)), none, 1, [], true, []⟩] 1)
 (.seq (.region rg_102_0 14)
 .ret))⟩
def af_103 : AFun := ⟨9, [.inl 4], (.seq (.region [⟨(some 4), .mov (.const (.bool false)), none, 0, [], true, []⟩] 0)
 (.seq (.region [⟨(some 5), .mov (.tmp 0), none, 0, [], true, []⟩, ⟨(some 6), .mov (.tmp 1), none, 0, [], true, []⟩, ⟨(some 7), .call 104 [(.tmp 5), (.tmp 6)], none, 0, [], true, []⟩, ⟨(some 8), .bin false .geq (.tmp 7) (.const (.int .i64 0)), none, 1, [], true, []⟩, ⟨(some 4), .mov (.tmp 8), none, 1, [], true, []⟩] 1)
 .ret))⟩
def rg_19_0 : List AOper := [⟨(some 4), .faddr 2 (.tmp 1), none, 0, [], true, []⟩, ⟨(some 5), .load none (.tmp 4), none, 0, [], true, []⟩, ⟨(some 6), .len false (.tmp 5), none, 0, [], true, []⟩, ⟨(some 7), .call 56 [(.tmp 6), (.const (.int .i64 1)), (.const (.int .i64 96))], none, 0, [], true, []⟩, ⟨(some 8), .un .not (.tmp 7), none, 1, [], true, []⟩, ⟨(some 9), .mov (.tmp 8), none, 1, [], true, []⟩, ⟨(some 10), .faddr 3 (.tmp 1), (some ((some 9), false)), 1, [], true, []⟩, ⟨(some 11), .load none (.tmp 10), (some ((some 9), false)), 1, [], true, []⟩, ⟨(some 12), .len false (.tmp 11), (some ((some 9), false)), 1, [], true, []⟩, ⟨(some 13), .faddr 2 (.tmp 1), (some ((some 9), false)), 1, [], true, []⟩, ⟨(some 14), .load none (.tmp 13), (some ((some 9), false)), 1, [], true, []⟩, ⟨(some 15), .len false (.tmp 14), (some ((some 9), false)), 1, [], true, []⟩, ⟨(some 16), .bin false .neq (.tmp 12) (.tmp 15), (some ((some 9), false)), 1, [], true, []⟩, ⟨(some 17), .pick (.tmp 9) (.const (.bool true)) (.tmp 16), none, 1, [], true, []⟩, ⟨(some 18), .mov (.tmp 17), none, 1, [], true, []⟩, ⟨(some 19), .faddr 0 (.tmp 1), (some ((some 18), false)), 1, [], true, []⟩, ⟨(some 20), .load none (.tmp 19), (some ((some 18), false)), 1, [], true, []⟩, ⟨(some 21), .call 56 [(.tmp 20), (.const (.int .i64 1)), (.const (.int .i64 4))], (some ((some 18), false)), 1, [], true, []⟩, ⟨(some 22), .un .not (.tmp 21), (some ((some 18), false)), 2, [], true, []⟩, ⟨(some 23), .pick (.tmp 18) (.const (.bool true)) (.tmp 22), none, 2, [], true, []⟩, ⟨(some 24), .mov (.tmp 23), none, 2, [], true, []⟩, ⟨(some 25), .faddr 1 (.tmp 1), (some ((some 24), false)), 2, [], true, []⟩, ⟨(some 26), .load none (.tmp 25), (some ((some 24), false)), 2, [], true, []⟩, ⟨(some 27), .call 56 [(.tmp 26), (.const (.int .i64 0)), (.const (.int .i64 6))], (some ((some 24), false)), 2, [], true, []⟩, ⟨(some 28), .un .not (.tmp 27), (some ((some 24), false)), 3, [], true, []⟩, ⟨(some 29), .pick (.tmp 24) (.const (.bool true)) (.tmp 28), none, 3, [], true, []⟩]
def rg_19_1 : List AOper := [⟨(some 37), .faddr 2 (.tmp 1), none, 0, [], true, []⟩, ⟨(some 38), .load none (.tmp 37), none, 0, [], true, []⟩, ⟨(some 39), .mov (.tmp 3), none, 0, [], true, []⟩, ⟨(some 40), .iaddr 1 (.tmp 38) (.tmp 39), none, 0, [], true, []⟩, ⟨(some 41), .load none (.tmp 40), none, 0, [], true, []⟩, ⟨(some 42), .call 56 [(.tmp 41), (.const (.int .i64 0)), (.const (.int .i64 1000))], none, 0, [], true, []⟩, ⟨(some 43), .un .not (.tmp 42), none, 1, [], true, []⟩, ⟨(some 44), .mov (.tmp 43), none, 1, [], true, []⟩, ⟨(some 45), .faddr 3 (.tmp 1), (some ((some 44), false)), 1, [], true, []⟩, ⟨(some 46), .load none (.tmp 45), (some ((some 44), false)), 1, [], true, []⟩, ⟨(some 47), .mov (.tmp 3), (some ((some 44), false)), 1, [], true, []⟩, ⟨(some 48), .iaddr 1 (.tmp 46) (.tmp 47), (some ((some 44), false)), 1, [], true, []⟩, ⟨(some 49), .load none (.tmp 48), (some ((some 44), false)), 1, [], true, []⟩, ⟨(some 50), .call 56 [(.tmp 49), (.const (.int .i64 0)), (.const (.int .i64 1000))], (some ((some 44), false)), 1, [], true, []⟩, ⟨(some 51), .un .not (.tmp 50), (some ((some 44), false)), 2, [], true, []⟩, ⟨(some 52), .pick (.tmp 44) (.const (.bool true)) (.tmp 51), none, 2, [], true, []⟩]
def lp_19_2 : ACode := (.seq (.seq (.region [⟨(some 30), .mov (.tmp 3), none, 0, [], true, []⟩, ⟨(some 31), .faddr 2 (.tmp 1), none, 0, [], true, []⟩, ⟨(some 32), .load none (.tmp 31), none, 0, [], true, []⟩, ⟨(some 33), .len false (.tmp 32), none, 0, [], true, []⟩, ⟨(some 34), .bin false .lss (.tmp 30) (.tmp 33), none, 0, [], true, []⟩] 0)
 (.cond (.tmp 34)
 .skip
 (.exit 0)))
 (.seq (.block 1 (.seq (.region rg_19_1 2)
 (.cond (.tmp 52)
 (.seq (.region [⟨(some 2), .mov (.const (.bool false)), none, 0, [], true, []⟩] 0)
 .ret)
 .skip)))
 (.region [⟨(some 35), .mov (.tmp 3), none, 0, [], true, []⟩, ⟨(some 36), .bin false .add (.tmp 35) (.const (.int .i64 1)), none, 0, [], true, []⟩, ⟨(some 3), .mov (.tmp 36), none, 0, [], true, []⟩] 0)))
def rs_19_3 : ACode := (.seq (.region [⟨(some 2), .mov (.const (.bool true)), none, 0, [], true, []⟩] 0)
 .ret)
def af_19 : AFun := ⟨53, [.inl 2], (.seq (.region [⟨(some 1), .box 4 (.tmp 0), none, 0, [], true, []⟩, ⟨(some 2), .mov (.const (.bool false)), none, 1, [], true, []⟩] 1)
 (.seq (.seq (.region rg_19_0 3)
 (.cond (.tmp 29)
 (.seq (.region [⟨(some 2), .mov (.const (.bool false)), none, 0, [], true, []⟩] 0)
 .ret)
 .skip))
 (.seq (.seq (.region [⟨(some 3), .mov (.const (.int .i64 0)), none, 0, [], true, []⟩] 0)
 (.block 0 (.loop lp_19_2)))
 rs_19_3)))⟩
def rg_56_0 : List AOper := [⟨(some 7), .mov (.tmp 0), none, 0, [], true, []⟩, ⟨(some 8), .mov (.tmp 1), none, 0, [], true, []⟩, ⟨(some 9), .bin false .geq (.tmp 7) (.tmp 8), none, 0, [], true, []⟩, ⟨(some 10), .mov (.tmp 9), none, 0, [], true, []⟩, ⟨(some 11), .mov (.tmp 0), (some ((some 10), true)), 0, [], true, []⟩, ⟨(some 12), .mov (.tmp 2), (some ((some 10), true)), 0, [], true, []⟩, ⟨(some 13), .bin false .leq (.tmp 11) (.tmp 12), (some ((some 10), true)), 0, [], true, []⟩, ⟨(some 14), .pick (.tmp 10) (.tmp 13) (.const (.bool false)), none, 0, [], true, []⟩, ⟨(some 6), .mov (.tmp 14), none, 0, [], true, []⟩]
def af_56 : AFun := ⟨15, [.inl 6], (.seq (.region [⟨(some 6), .mov (.const (.bool false)), none, 0, [], true, []⟩] 0)
 (.seq (.region rg_56_0 0)
 .ret))⟩
def rg_69_0 : List AOper := [⟨(some 14), .mov (.tmp 1), none, 0, [], true, []⟩, ⟨(some 15), .mov (.tmp 3), none, 0, [], true, []⟩, ⟨(some 16), .iaddr 7 (.tmp 14) (.tmp 15), none, 0, [2, 3, 4, 5], false, []⟩, ⟨(some 17), .load (some 7) (.tmp 16), none, 1, [2, 3, 4, 5], false, []⟩, ⟨(some 18), .mov (.tmp 1), none, 2, [], true, []⟩, ⟨(some 19), .mov (.tmp 4), none, 2, [], true, []⟩, ⟨(some 20), .iaddr 7 (.tmp 18) (.tmp 19), none, 2, [0, 1, 4, 5, 6, 4], false, []⟩, ⟨(some 21), .load (some 7) (.tmp 20), none, 3, [0, 1, 4, 5, 6, 4], false, []⟩, ⟨(some 11), .zero [(.val (.int .i64 0)), (.val (.int .i64 0)), (.val (.int .i64 0)), (.val (.int .i64 0)), (.val (.int .i64 0)), (.val (.int .i64 0)), (.val (.int .i64 0))], none, 4, [0, 1, 2, 3, 5], false, []⟩, ⟨(some 12), .zero [(.val (.int .i64 0)), (.val (.int .i64 0)), (.val (.int .i64 0)), (.val (.int .i64 0)), (.val (.int .i64 0)), (.val (.int .i64 0)), (.val (.int .i64 0))], none, 5, [0, 1, 2, 3, 4], false, []⟩, ⟨none, .store 7 (.tmp 11) (.tmp 17), none, 6, [2, 3], false, [4]⟩, ⟨none, .store 7 (.tmp 12) (.tmp 21), none, 7, [], true, []⟩]
def rg_69_1 : List AOper := [⟨(some 46), .load (some 7) (.tmp 11), none, 0, [1, 2], false, []⟩, ⟨(some 47), .mov (.tmp 2), none, 1, [], true, []⟩, ⟨(some 48), .mov (.tmp 3), none, 1, [], true, []⟩, ⟨(some 49), .iaddr 1 (.tmp 47) (.tmp 48), none, 1, [0], false, []⟩, ⟨(some 50), .load none (.tmp 49), none, 2, [0], false, []⟩, ⟨(some 51), .mov (.tmp 13), none, 3, [], true, []⟩, ⟨(some 52), .call 68 [(.tmp 46), (.tmp 50), (.tmp 51)], none, 3, [], true, []⟩, ⟨(some 53), .mov (.tmp 52), none, 4, [], true, []⟩, ⟨(some 54), .mov (.tmp 1), (some ((some 53), true)), 4, [], true, []⟩, ⟨(some 55), .mov (.tmp 4), (some ((some 53), true)), 4, [], true, []⟩, ⟨(some 56), .iaddr 7 (.tmp 54) (.tmp 55), (some ((some 53), true)), 4, [6, 7], false, []⟩, ⟨(some 57), .load (some 7) (.tmp 56), (some ((some 53), true)), 5, [6, 7], false, []⟩, ⟨(some 58), .mov (.tmp 2), (some ((some 53), true)), 6, [], true, []⟩, ⟨(some 59), .mov (.tmp 4), (some ((some 53), true)), 6, [], true, []⟩, ⟨(some 60), .iaddr 1 (.tmp 58) (.tmp 59), (some ((some 53), true)), 6, [4, 5], false, []⟩, ⟨(some 61), .load none (.tmp 60), (some ((some 53), true)), 7, [4, 5], false, []⟩, ⟨(some 62), .mov (.tmp 13), (some ((some 53), true)), 8, [], true, []⟩, ⟨(some 63), .call 68 [(.tmp 57), (.tmp 61), (.tmp 62)], (some ((some 53), true)), 8, [], true, []⟩, ⟨(some 64), .pick (.tmp 53) (.tmp 63) (.const (.bool false)), none, 9, [], true, []⟩, ⟨(some 65), .mov (.tmp 64), none, 9, [], true, []⟩, ⟨(some 66), .mov (.tmp 1), (some ((some 65), false)), 9, [], true, []⟩, ⟨(some 67), .mov (.tmp 3), (some ((some 65), false)), 9, [], true, []⟩, ⟨(some 68), .iaddr 7 (.tmp 66) (.tmp 67), (some ((some 65), false)), 9, [11, 12], false, []⟩, ⟨(some 69), .load (some 7) (.tmp 68), (some ((some 65), false)), 10, [11, 12], false, []⟩, ⟨(some 70), .mov (.tmp 2), (some ((some 65), false)), 11, [], true, []⟩, ⟨(some 71), .mov (.tmp 3), (some ((some 65), false)), 11, [], true, []⟩, ⟨(some 72), .iaddr 1 (.tmp 70) (.tmp 71), (some ((some 65), false)), 11, [9, 10], false, []⟩, ⟨(some 73), .load none (.tmp 72), (some ((some 65), false)), 12, [9, 10], false, []⟩, ⟨(some 74), .mov (.tmp 13), (some ((some 65), false)), 13, [], true, []⟩, ⟨(some 75), .call 68 [(.tmp 69), (.tmp 73), (.tmp 74)], (some ((some 65), false)), 13, [], true, []⟩, ⟨(some 76), .mov (.tmp 75), (some ((some 65), false)), 14, [], true, []⟩, ⟨(some 77), .load (some 7) (.tmp 12), (some ((some 76), true)), 14, [15, 16], false, []⟩, ⟨(some 78), .mov (.tmp 2), (some ((some 76), true)), 15, [], true, []⟩, ⟨(some 79), .mov (.tmp 4), (some ((some 76), true)), 15, [], true, []⟩, ⟨(some 80), .iaddr 1 (.tmp 78) (.tmp 79), (some ((some 76), true)), 15, [14], false, []⟩, ⟨(some 81), .load none (.tmp 80), (some ((some 76), true)), 16, [14], false, []⟩, ⟨(some 82), .mov (.tmp 13), (some ((some 76), true)), 17, [], true, []⟩, ⟨(some 83), .call 68 [(.tmp 77), (.tmp 81), (.tmp 82)], (some ((some 76), true)), 17, [], true, []⟩, ⟨(some 84), .pick (.tmp 76) (.tmp 83) (.const (.bool false)), (some ((some 65), false)), 18, [], true, []⟩, ⟨(some 85), .pick (.tmp 65) (.const (.bool true)) (.tmp 84), none, 18, [], true, []⟩]
def lp_69_2 : ACode := (.seq (.seq (.region [⟨(some 39), .mov (.tmp 13), none, 0, [], true, []⟩, ⟨(some 40), .faddr 2 (.tmp 5), none, 0, [], true, []⟩, ⟨(some 41), .load none (.tmp 40), none, 0, [], true, []⟩, ⟨(some 42), .len false (.tmp 41), none, 0, [], true, []⟩, ⟨(some 43), .bin false .lss (.tmp 39) (.tmp 42), none, 0, [], true, []⟩] 0)
 (.cond (.tmp 43)
 .skip
 (.exit 0)))
 (.seq (.block 1 (.seq (.region rg_69_1 18)
 (.cond (.tmp 85)
 (.seq (.region [⟨(some 10), .mov (.const (.bool true)), none, 0, [], true, []⟩] 0)
 .ret)
 .skip)))
 (.region [⟨(some 44), .mov (.tmp 13), none, 0, [], true, []⟩, ⟨(some 45), .bin false .add (.tmp 44) (.const (.int .i64 1)), none, 0, [], true, []⟩, ⟨(some 13), .mov (.tmp 45), none, 0, [], true, []⟩] 0)))
def rs_69_3 : ACode := (.seq (.region [⟨(some 10), .mov (.const (.bool false)), none, 0, [], true, []⟩] 0)
 .ret)
def af_69 : AFun := ⟨86, [.inl 10], (.seq (.region [⟨(some 5), .box 4 (.tmp 0), none, 0, [], true, []⟩, ⟨(some 10), .mov (.const (.bool false)), none, 1, [], true, []⟩] 1)
 (.seq (.region rg_69_0 8)
 (.seq (.seq (.region [⟨(some 22), .faddr 0 (.tmp 11), none, 0, [], true, []⟩, ⟨(some 23), .load none (.tmp 22), none, 0, [], true, []⟩, ⟨(some 24), .faddr 0 (.tmp 12), none, 0, [], true, []⟩, ⟨(some 25), .load none (.tmp 24), none, 0, [], true, []⟩, ⟨(some 26), .bin false .neq (.tmp 23) (.tmp 25), none, 0, [], true, []⟩] 0)
 (.cond (.tmp 26)
 (.seq (.region [⟨(some 27), .faddr 2 (.tmp 11), none, 0, [], true, []⟩, ⟨(some 28), .load none (.tmp 27), none, 0, [], true, []⟩, ⟨(some 29), .faddr 1 (.tmp 5), none, 0, [], true, []⟩, ⟨(some 30), .load none (.tmp 29), none, 0, [], true, []⟩, ⟨(some 31), .bin false .add (.tmp 28) (.tmp 30), none, 0, [], true, []⟩, ⟨(some 32), .faddr 2 (.tmp 11), none, 0, [], true, []⟩, ⟨none, .store 1 (.tmp 32) (.tmp 31), none, 0, [], true, []⟩] 0)
 (.region [⟨(some 33), .faddr 2 (.tmp 12), none, 0, [], true, []⟩, ⟨(some 34), .load none (.tmp 33), none, 0, [], true, []⟩, ⟨(some 35), .faddr 1 (.tmp 5), none, 0, [], true, []⟩, ⟨(some 36), .load none (.tmp 35), none, 0, [], true, []⟩, ⟨(some 37), .bin false .add (.tmp 34) (.tmp 36), none, 0, [], true, []⟩, ⟨(some 38), .faddr 2 (.tmp 12), none, 0, [], true, []⟩, ⟨none, .store 1 (.tmp 38) (.tmp 37), none, 0, [], true, []⟩] 0))
 .skip))
 (.seq (.seq (.region [⟨(some 13), .mov (.const (.int .i64 0)), none, 0, [], true, []⟩] 0)
 (.block 0 (.loop lp_69_2)))
 rs_69_3))))⟩
def rg_31_0 : List AOper := [⟨(some 15), .mov (.tmp 0), none, 0, [], true, []⟩, ⟨(some 16), .mov (.tmp 8), none, 0, [], true, []⟩, ⟨(some 17), .iaddr 7 (.tmp 15) (.tmp 16), none, 0, [2, 3], false, []⟩, ⟨(some 18), .load (some 7) (.tmp 17), none, 1, [2, 3], false, []⟩, ⟨(some 19), .mov (.tmp 1), none, 2, [], true, []⟩, ⟨(some 20), .mov (.tmp 8), none, 2, [], true, []⟩, ⟨(some 21), .iaddr 1 (.tmp 19) (.tmp 20), none, 2, [0, 1], false, []⟩, ⟨(some 22), .load none (.tmp 21), none, 3, [0, 1], false, []⟩, ⟨(some 23), .mov (.tmp 2), none, 4, [], true, []⟩, ⟨(some 24), .call 70 [(.tmp 18), (.tmp 22), (.tmp 23)], none, 4, [], true, []⟩]
def lp_31_1 : ACode := (.seq (.seq (.region [⟨(some 9), .mov (.tmp 8), none, 0, [], true, []⟩, ⟨(some 10), .mov (.tmp 0), none, 0, [], true, []⟩, ⟨(some 11), .len false (.tmp 10), none, 0, [], true, []⟩, ⟨(some 12), .bin false .lss (.tmp 9) (.tmp 11), none, 0, [], true, []⟩] 0)
 (.cond (.tmp 12)
 .skip
 (.exit 0)))
 (.seq (.block 1 (.seq (.region rg_31_0 5)
 (.cond (.tmp 24)
 (.region [⟨(some 25), .mov (.tmp 7), none, 0, [], true, []⟩, ⟨(some 26), .bin false .add (.tmp 25) (.const (.int .i64 1)), none, 0, [], true, []⟩, ⟨(some 7), .mov (.tmp 26), none, 0, [], true, []⟩] 0)
 .skip)))
 (.region [⟨(some 13), .mov (.tmp 8), none, 0, [], true, []⟩, ⟨(some 14), .bin false .add (.tmp 13) (.const (.int .i64 1)), none, 0, [], true, []⟩, ⟨(some 8), .mov (.tmp 14), none, 0, [], true, []⟩] 0)))
def rs_31_2 : ACode := (.seq (.region [⟨(some 27), .mov (.tmp 7), none, 0, [], true, []⟩, ⟨(some 6), .mov (.tmp 27), none, 0, [], true, []⟩] 0)
 .ret)
def af_31 : AFun := ⟨28, [.inl 6], (.seq (.region [⟨(some 6), .mov (.const (.int .i64 0)), none, 0, [], true, []⟩] 0)
 (.seq (.region [⟨(some 7), .mov (.const (.int .i64 0)), none, 0, [], true, []⟩] 0)
 (.seq (.seq (.region [⟨(some 8), .mov (.const (.int .i64 0)), none, 0, [], true, []⟩] 0)
 (.block 0 (.loop lp_31_1)))
 rs_31_2)))⟩
def rg_18_0 : List AOper := [⟨(some 13), .mov (.tmp 1), none, 0, [], true, []⟩, ⟨(some 14), .len false (.tmp 13), none, 0, [], true, []⟩, ⟨(some 15), .bin false .leq (.tmp 14) (.const (.int .i64 16)), none, 0, [], true, []⟩, ⟨(some 16), .mov (.tmp 15), none, 0, [], true, []⟩, ⟨(some 17), .mov (.tmp 1), (some ((some 16), true)), 0, [], true, []⟩, ⟨(some 18), .mov (.tmp 6), (some ((some 16), true)), 0, [], true, []⟩, ⟨(some 19), .call 55 [(.tmp 17), (.tmp 18)], (some ((some 16), true)), 0, [], true, []⟩, ⟨(some 20), .un .not (.tmp 19), (some ((some 16), true)), 1, [], true, []⟩, ⟨(some 21), .pick (.tmp 16) (.tmp 20) (.const (.bool false)), none, 1, [], true, []⟩, ⟨(some 22), .call 51 [(.tmp 21)], none, 1, [], true, []⟩, ⟨(some 4), .mov (.tmp 22), none, 2, [], true, []⟩]
def af_18 : AFun := ⟨23, [.inl 4], (.seq (.region [⟨(some 2), .box 4 (.tmp 0), none, 0, [], true, []⟩, ⟨(some 4), .mov (.const (.int .i64 0)), none, 1, [], true, []⟩] 1)
 (.seq (.seq (.region [⟨(some 7), .load (some 4) (.tmp 2), none, 0, [], true, []⟩, ⟨(some 8), .call 17 [(.tmp 7)], none, 0, [], true, []⟩, ⟨(some 5), .mov (.tmp 8), none, 1, [], true, []⟩] 1)
 (.seq (.region [⟨(some 9), .mov (.tmp 5), none, 0, [], true, []⟩, ⟨(some 10), .bin false .neq (.tmp 9) (.const (.int .i64 0)), none, 0, [], true, []⟩] 0)
 (.cond (.tmp 10)
 (.seq (.region [⟨(some 11), .mov (.tmp 5), none, 0, [], true, []⟩, ⟨(some 4), .mov (.tmp 11), none, 0, [], true, []⟩] 0)
 .ret)
 .skip)))
 (.seq (.region [⟨(some 12), .mkFn 53 [] [(.tmp 2)], none, 0, [], true, []⟩, ⟨(some 6), .mov (.tmp 12), none, 0, [], true, []⟩] 0)
 (.seq (.region rg_18_0 2)
 .ret))))⟩
def af_95 : AFun := ⟨8, [.inl 2], (.seq (.region [⟨(some 2), .mov (.const (.slice none 0 0)), none, 0, [], true, []⟩] 0)
 (.seq (.seq (.region [⟨(some 3), .mov (.tmp 0), none, 0, [], true, []⟩, ⟨(some 4), .eqNil 0 .eql (.tmp 3) (.const (.slice none 0 0)), none, 0, [], true, []⟩] 0)
 (.cond (.tmp 4)
 (.seq (.region [⟨(some 2), .mov (.const (.slice none 0 0)), none, 0, [], true, []⟩] 0)
 .ret)
 .skip))
 (.seq (.region [⟨(some 5), .bslice 8 0 [(.val (.int .i64 0)), (.val (.int .i64 0)), (.val (.int .i64 0)), (.val (.int .i64 0)), (.val (.int .i64 0)), (.val (.int .i64 0)), (.val (.int .i64 0)), (.val (.int .i64 0))] [], none, 0, [], true, []⟩, ⟨(some 6), .mov (.tmp 0), none, 1, [], true, []⟩, ⟨(some 7), .append 8 (.tmp 5) (.tmp 6), none, 1, [], true, []⟩, ⟨(some 2), .mov (.tmp 7), none, 2, [], true, []⟩] 2)
 .ret)))⟩
def lp_96_0 : ACode := (.seq (.seq (.region [⟨(some 16), .mov (.tmp 6), none, 0, [], true, []⟩, ⟨(some 17), .mov (.tmp 0), none, 0, [], true, []⟩, ⟨(some 18), .len false (.tmp 17), none, 0, [], true, []⟩, ⟨(some 19), .bin false .lss (.tmp 16) (.tmp 18), none, 0, [], true, []⟩] 0)
 (.cond (.tmp 19)
 .skip
 (.exit 0)))
 (.seq (.block 1 (.seq (.region [⟨(some 22), .mov (.tmp 0), none, 0, [], true, []⟩, ⟨(some 23), .mov (.tmp 6), none, 0, [], true, []⟩, ⟨(some 24), .iaddr 8 (.tmp 22) (.tmp 23), none, 0, [], true, []⟩, ⟨(some 25), .load (some 8) (.tmp 24), none, 0, [], true, []⟩, ⟨(some 7), .zero [(.val (.int .i64 0)), (.val (.int .i64 0)), (.val (.int .i64 0)), (.val (.int .i64 0)), (.val (.int .i64 0)), (.val (.int .i64 0)), (.val (.int .i64 0)), (.val (.int .i64 0))], none, 0, [], true, []⟩, ⟨none, .store 8 (.tmp 7) (.tmp 25), none, 1, [], true, []⟩] 1)
 (.seq (.region [⟨(some 26), .mov (.tmp 1), none, 0, [], true, []⟩, ⟨(some 27), .load (some 8) (.tmp 7), none, 0, [], true, []⟩, ⟨(some 28), .callv (.tmp 26) [(.tmp 27)], none, 0, [], true, []⟩, ⟨(some 29), .un .not (.tmp 28), none, 1, [], true, []⟩] 1)
 (.cond (.tmp 29)
 (.seq (.region [⟨(some 30), .mov (.tmp 0), none, 0, [], true, []⟩, ⟨(some 31), .mov (.tmp 5), none, 0, [], true, []⟩, ⟨(some 32), .load (some 8) (.tmp 7), none, 0, [], true, []⟩, ⟨(some 33), .iaddr 8 (.tmp 30) (.tmp 31), none, 0, [], true, []⟩, ⟨none, .store 8 (.tmp 33) (.tmp 32), none, 0, [], true, []⟩] 0)
 (.region [⟨(some 34), .mov (.tmp 5), none, 0, [], true, []⟩, ⟨(some 35), .bin false .add (.tmp 34) (.const (.int .i64 1)), none, 0, [], true, []⟩, ⟨(some 5), .mov (.tmp 35), none, 0, [], true, []⟩] 0))
 .skip))))
 (.region [⟨(some 20), .mov (.tmp 6), none, 0, [], true, []⟩, ⟨(some 21), .bin false .add (.tmp 20) (.const (.int .i64 1)), none, 0, [], true, []⟩, ⟨(some 6), .mov (.tmp 21), none, 0, [], true, []⟩] 0)))
def rs_96_1 : ACode := (.seq (.region [⟨(some 36), .mov (.tmp 0), none, 0, [], true, []⟩, ⟨(some 37), .mov (.tmp 5), none, 0, [], true, []⟩, ⟨(some 38), .slice 8 (.tmp 36) (some (.tmp 37)) none none, none, 0, [], true, []⟩, ⟨none, .clear 8 [(.val (.int .i64 0)), (.val (.int .i64 0)), (.val (.int .i64 0)), (.val (.int .i64 0)), (.val (.int .i64 0)), (.val (.int .i64 0)), (.val (.int .i64 0)), (.val (.int .i64 0))] (.tmp 38), none, 0, [], true, []⟩] 0)
 (.seq (.region [⟨(some 39), .mov (.tmp 0), none, 0, [], true, []⟩, ⟨(some 40), .mov (.tmp 5), none, 0, [], true, []⟩, ⟨(some 41), .slice 8 (.tmp 39) none (some (.tmp 40)) none, none, 0, [], true, []⟩, ⟨(some 4), .mov (.tmp 41), none, 0, [], true, []⟩] 0)
 .ret))
def af_96 : AFun := ⟨42, [.inl 4], (.seq (.region [⟨(some 4), .mov (.const (.slice none 0 0)), none, 0, [], true, []⟩] 0)
 (.seq (.region [⟨(some 8), .mov (.tmp 0), none, 0, [], true, []⟩, ⟨(some 9), .mov (.tmp 1), none, 0, [], true, []⟩, ⟨(some 10), .call 104 [(.tmp 8), (.tmp 9)], none, 0, [], true, []⟩, ⟨(some 5), .mov (.tmp 10), none, 1, [], true, []⟩] 1)
 (.seq (.seq (.region [⟨(some 11), .mov (.tmp 5), none, 0, [], true, []⟩, ⟨(some 12), .bin false .eql (.tmp 11) (.const (.int .i64 (-1))), none, 0, [], true, []⟩] 0)
 (.cond (.tmp 12)
 (.seq (.region [⟨(some 13), .mov (.tmp 0), none, 0, [], true, []⟩, ⟨(some 4), .mov (.tmp 13), none, 0, [], true, []⟩] 0)
 .ret)
 .skip))
 (.seq (.seq (.region [⟨(some 14), .mov (.tmp 5), none, 0, [], true, []⟩, ⟨(some 15), .bin false .add (.tmp 14) (.const (.int .i64 1)), none, 0, [], true, []⟩, ⟨(some 6), .mov (.tmp 15), none, 0, [], true, []⟩] 0)
 (.block 0 (.loop lp_96_0)))
 rs_96_1))))⟩
def rg_97_0 : List AOper := [⟨(some 10), .mov (.tmp 0), none, 0, [], true, []⟩, ⟨(some 11), .mov (.tmp 0), none, 0, [], true, []⟩, ⟨(some 12), .nilCheck (.tmp 11), none, 0, [], true, []⟩, ⟨(some 13), .faddr 0 (.tmp 12), none, 0, [], true, []⟩, ⟨(some 14), .load (some 4) (.tmp 13), none, 0, [], true, []⟩, ⟨(some 15), .mov (.tmp 1), none, 0, [], true, []⟩, ⟨(some 16), .call 61 [(.tmp 14), (.tmp 15)], none, 0, [], true, []⟩, ⟨(some 17), .nilCheck (.tmp 10), none, 1, [], true, []⟩, ⟨(some 18), .faddr 8 (.tmp 17), none, 1, [], true, []⟩, ⟨none, .store 1 (.tmp 18) (.tmp 16), none, 1, [], true, []⟩]
def rg_97_1 : List AOper := [⟨(some 19), .mov (.tmp 0), none, 0, [], true, []⟩, ⟨(some 20), .mov (.tmp 0), none, 0, [], true, []⟩, ⟨(some 21), .nilCheck (.tmp 20), none, 0, [], true, []⟩, ⟨(some 22), .faddr 5 (.tmp 21), none, 0, [], true, []⟩, ⟨(some 23), .load none (.tmp 22), none, 0, [], true, []⟩, ⟨(some 24), .len false (.tmp 23), none, 0, [], true, []⟩, ⟨(some 25), .bin false .add (.tmp 24) (.const (.int .i64 1)), none, 0, [], true, []⟩, ⟨(some 26), .mkSlice 1 8 [(.val (.int .i64 0))] (.tmp 25) (.tmp 25), none, 0, [], true, []⟩, ⟨(some 27), .nilCheck (.tmp 19), none, 1, [], true, []⟩, ⟨(some 28), .faddr 7 (.tmp 27), none, 1, [], true, []⟩, ⟨none, .store 1 (.tmp 28) (.tmp 26), none, 1, [], true, []⟩]
def rg_97_2 : List AOper := [⟨(some 29), .mov (.tmp 0), none, 0, [], true, []⟩, ⟨(some 30), .mov (.tmp 0), none, 0, [], true, []⟩, ⟨(some 31), .nilCheck (.tmp 30), none, 0, [], true, []⟩, ⟨(some 32), .faddr 5 (.tmp 31), none, 0, [], true, []⟩, ⟨(some 33), .load none (.tmp 32), none, 0, [], true, []⟩, ⟨(some 34), .len false (.tmp 33), none, 0, [], true, []⟩, ⟨(some 35), .mkSlice 1 24 [(.val (.slice none 0 0))] (.tmp 34) (.tmp 34), none, 0, [], true, []⟩, ⟨(some 36), .nilCheck (.tmp 29), none, 1, [], true, []⟩, ⟨(some 37), .faddr 6 (.tmp 36), none, 1, [], true, []⟩, ⟨none, .store 1 (.tmp 37) (.tmp 35), none, 1, [], true, []⟩]
def rg_97_3 : List AOper := [⟨(some 48), .mov (.tmp 0), none, 0, [], true, []⟩, ⟨(some 49), .nilCheck (.tmp 48), none, 0, [3, 4, 5, 6, 7, 11], false, []⟩, ⟨(some 50), .faddr 4 (.tmp 49), none, 1, [3, 4, 5, 6, 7, 11], false, []⟩, ⟨(some 51), .load none (.tmp 50), none, 2, [3, 4, 5, 6, 7, 11], false, []⟩, ⟨(some 52), .mov (.tmp 0), none, 3, [], true, []⟩, ⟨(some 53), .nilCheck (.tmp 52), none, 3, [0, 1, 2, 11], false, []⟩, ⟨(some 54), .faddr 5 (.tmp 53), none, 4, [0, 1, 2, 11], false, []⟩, ⟨(some 55), .load none (.tmp 54), none, 5, [0, 1, 2, 11], false, []⟩, ⟨(some 56), .mov (.tmp 7), none, 6, [], true, []⟩, ⟨(some 57), .iaddr 1 (.tmp 55) (.tmp 56), none, 6, [0, 1, 2, 11], false, []⟩, ⟨(some 58), .load none (.tmp 57), none, 7, [0, 1, 2, 11], false, []⟩, ⟨(some 59), .iaddr 8 (.tmp 51) (.tmp 58), none, 8, [11], false, []⟩, ⟨(some 60), .faddr 0 (.tmp 59), none, 9, [11], false, []⟩, ⟨(some 61), .load (some 7) (.tmp 60), none, 10, [11], false, []⟩, ⟨(some 8), .zero [(.val (.int .i64 0)), (.val (.int .i64 0)), (.val (.int .i64 0)), (.val (.int .i64 0)), (.val (.int .i64 0)), (.val (.int .i64 0)), (.val (.int .i64 0))], none, 11, [0, 1, 2, 3, 4, 5, 6, 7, 8, 9, 10], false, []⟩, ⟨none, .store 7 (.tmp 8) (.tmp 61), none, 12, [], true, []⟩]
def rg_97_4 : List AOper := [⟨(some 63), .mov (.tmp 0), none, 0, [], true, []⟩, ⟨(some 64), .nilCheck (.tmp 63), none, 0, [3, 4, 5, 6, 7, 8], false, []⟩, ⟨(some 65), .faddr 6 (.tmp 64), none, 1, [3, 4, 5, 6, 7, 8], false, []⟩, ⟨(some 66), .load none (.tmp 65), none, 2, [3, 4, 5, 6, 7, 8], false, []⟩, ⟨(some 67), .mov (.tmp 7), none, 3, [], true, []⟩, ⟨(some 68), .mov (.tmp 0), none, 3, [], true, []⟩, ⟨(some 69), .nilCheck (.tmp 68), none, 3, [0, 1, 2, 6], false, []⟩, ⟨(some 70), .faddr 0 (.tmp 69), none, 4, [0, 1, 2, 6], false, []⟩, ⟨(some 71), .load (some 4) (.tmp 70), none, 5, [0, 1, 2, 6], false, []⟩, ⟨(some 72), .mov (.tmp 1), none, 6, [], true, []⟩, ⟨(some 73), .load (some 7) (.tmp 8), none, 6, [0, 1, 2, 3, 4, 5], false, []⟩, ⟨(some 74), .call 73 [(.tmp 71), (.tmp 72), (.tmp 73)], none, 7, [0, 1, 2], false, []⟩, ⟨(some 75), .mov (.tmp 9), none, 8, [], true, []⟩, ⟨(some 76), .call 111 [(.tmp 74), (.tmp 75)], none, 8, [0, 1, 2], false, []⟩, ⟨(some 77), .iaddr 1 (.tmp 66) (.tmp 67), none, 9, [], true, []⟩, ⟨none, .store 1 (.tmp 77) (.tmp 76), none, 10, [], true, []⟩]
def rg_97_5 : List AOper := [⟨(some 78), .mov (.tmp 0), none, 0, [], true, []⟩, ⟨(some 79), .nilCheck (.tmp 78), none, 0, [], true, []⟩, ⟨(some 80), .faddr 6 (.tmp 79), none, 0, [], true, []⟩, ⟨(some 81), .load none (.tmp 80), none, 0, [], true, []⟩, ⟨(some 82), .mov (.tmp 7), none, 0, [], true, []⟩, ⟨(some 83), .iaddr 1 (.tmp 81) (.tmp 82), none, 0, [], true, []⟩, ⟨(some 84), .load none (.tmp 83), none, 0, [], true, []⟩, ⟨(some 85), .len false (.tmp 84), none, 0, [], true, []⟩, ⟨(some 86), .bin false .eql (.tmp 85) (.const (.int .i64 0)), none, 0, [], true, []⟩]
def rg_97_6 : List AOper := [⟨(some 87), .mov (.tmp 0), none, 0, [], true, []⟩, ⟨(some 88), .nilCheck (.tmp 87), none, 0, [3, 4, 5, 6, 7, 8, 9, 10, 11, 12, 13, 14, 15, 16], false, []⟩, ⟨(some 89), .faddr 7 (.tmp 88), none, 1, [3, 4, 5, 6, 7, 8, 9, 10, 11, 12, 13, 14, 15, 16], false, []⟩, ⟨(some 90), .load none (.tmp 89), none, 2, [3, 4, 5, 6, 7, 8, 9, 10, 11, 12, 13, 14, 15, 16], false, []⟩, ⟨(some 91), .mov (.tmp 7), none, 3, [], true, []⟩, ⟨(some 92), .mov (.tmp 0), none, 3, [], true, []⟩, ⟨(some 93), .nilCheck (.tmp 92), none, 3, [0, 1, 2, 8, 9, 10, 11, 12, 13, 14, 15, 16], false, []⟩, ⟨(some 94), .faddr 7 (.tmp 93), none, 4, [0, 1, 2, 8, 9, 10, 11, 12, 13, 14, 15, 16], false, []⟩, ⟨(some 95), .load none (.tmp 94), none, 5, [0, 1, 2, 8, 9, 10, 11, 12, 13, 14, 15, 16], false, []⟩, ⟨(some 96), .mov (.tmp 7), none, 6, [], true, []⟩, ⟨(some 97), .bin false .add (.tmp 96) (.const (.int .i64 1)), none, 6, [], true, []⟩, ⟨(some 98), .iaddr 1 (.tmp 95) (.tmp 97), none, 6, [0, 1, 2, 8, 9, 10, 11, 12, 13, 14, 15, 16], false, []⟩, ⟨(some 99), .load none (.tmp 98), none, 7, [0, 1, 2, 8, 9, 10, 11, 12, 13, 14, 15, 16], false, []⟩, ⟨(some 100), .load (some 7) (.tmp 8), none, 8, [0, 1, 2, 3, 4, 5, 6, 7, 9, 10, 11, 12, 13, 14, 15], false, []⟩, ⟨(some 101), .mov (.tmp 0), none, 9, [], true, []⟩, ⟨(some 102), .nilCheck (.tmp 101), none, 9, [0, 1, 2, 3, 4, 5, 6, 7, 8], false, []⟩, ⟨(some 103), .faddr 6 (.tmp 102), none, 10, [0, 1, 2, 3, 4, 5, 6, 7, 8], false, []⟩, ⟨(some 104), .load none (.tmp 103), none, 11, [0, 1, 2, 3, 4, 5, 6, 7, 8], false, []⟩, ⟨(some 105), .mov (.tmp 7), none, 12, [], true, []⟩, ⟨(some 106), .iaddr 1 (.tmp 104) (.tmp 105), none, 12, [0, 1, 2, 3, 4, 5, 6, 7, 8], false, []⟩, ⟨(some 107), .load none (.tmp 106), none, 13, [0, 1, 2, 3, 4, 5, 6, 7, 8], false, []⟩, ⟨(some 108), .iaddr 1 (.tmp 107) (.const (.int .i64 0)), none, 14, [0, 1, 2, 3, 4, 5, 6, 7, 8], false, []⟩, ⟨(some 109), .load none (.tmp 108), none, 15, [0, 1, 2, 3, 4, 5, 6, 7, 8], false, []⟩, ⟨(some 110), .build [(.val (.int .i64 0)), (.val (.int .i64 0)), (.val (.int .i64 0)), (.val (.int .i64 0)), (.val (.int .i64 0)), (.val (.int .i64 0)), (.val (.int .i64 0)), (.val (.int .i64 0))] [(0, 7, (.tmp 100)), (7, 1, (.tmp 109))], none, 16, [], true, []⟩, ⟨(some 111), .call 74 [(.tmp 110)], none, 16, [0, 1, 2, 3, 4, 5, 6, 7], false, []⟩, ⟨(some 112), .bin false .add (.tmp 99) (.tmp 111), none, 17, [], true, []⟩, ⟨(some 113), .iaddr 1 (.tmp 90) (.tmp 91), none, 17, [], true, []⟩, ⟨none, .store 1 (.tmp 113) (.tmp 112), none, 18, [], true, []⟩]
def lp_97_7 : ACode := (.seq (.seq (.region [⟨(some 44), .mov (.tmp 7), none, 0, [], true, []⟩, ⟨(some 45), .bin false .geq (.tmp 44) (.const (.int .i64 0)), none, 0, [], true, []⟩] 0)
 (.cond (.tmp 45)
 .skip
 (.exit 0)))
 (.seq (.block 1 (.seq (.region rg_97_3 13)
 (.seq (.region [⟨(some 62), .mkFn 110 [] [(.tmp 8), (.tmp 5)], none, 0, [], true, []⟩, ⟨(some 9), .mov (.tmp 62), none, 0, [], true, []⟩] 0)
 (.seq (.region rg_97_4 11)
 (.seq (.seq (.region rg_97_5 0)
 (.cond (.tmp 86)
 (.seq (.region [⟨(some 6), .mov (.const (.bool false)), none, 0, [], true, []⟩] 0)
 .ret)
 .skip))
 (.region rg_97_6 19))))))
 (.region [⟨(some 46), .mov (.tmp 7), none, 0, [], true, []⟩, ⟨(some 47), .bin false .sub (.tmp 46) (.const (.int .i64 1)), none, 0, [], true, []⟩, ⟨(some 7), .mov (.tmp 47), none, 0, [], true, []⟩] 0)))
def rs_97_8 : ACode := (.seq (.region [⟨(some 6), .mov (.const (.bool true)), none, 0, [], true, []⟩] 0)
 .ret)
def af_97 : AFun := ⟨114, [.inl 6], (.seq (.region [⟨(some 5), .box 1 (.tmp 2), none, 0, [], true, []⟩, ⟨(some 6), .mov (.const (.bool false)), none, 1, [], true, []⟩] 1)
 (.seq (.region rg_97_0 1)
 (.seq (.region rg_97_1 1)
 (.seq (.region rg_97_2 1)
 (.seq (.seq (.region [⟨(some 38), .mov (.tmp 0), none, 0, [], true, []⟩, ⟨(some 39), .nilCheck (.tmp 38), none, 0, [], true, []⟩, ⟨(some 40), .faddr 5 (.tmp 39), none, 0, [], true, []⟩, ⟨(some 41), .load none (.tmp 40), none, 0, [], true, []⟩, ⟨(some 42), .len false (.tmp 41), none, 0, [], true, []⟩, ⟨(some 43), .bin false .sub (.tmp 42) (.const (.int .i64 1)), none, 0, [], true, []⟩, ⟨(some 7), .mov (.tmp 43), none, 0, [], true, []⟩] 0)
 (.block 0 (.loop lp_97_7)))
 rs_97_8)))))⟩
def lp_60_0 : ACode := (.seq (.region [⟨(some 9), .bin false .lss (.tmp 8) (.tmp 7), none, 0, [], true, []⟩] 0)
 (.seq (.cond (.tmp 9)
 .skip
 (.exit 0))
 (.seq (.block 1 (.seq (.region [⟨(some 10), .iaddr 8 (.tmp 6) (.tmp 8), none, 0, [], true, []⟩, ⟨(some 11), .load (some 8) (.tmp 10), none, 0, [], true, []⟩, ⟨(some 5), .zero [(.val (.int .i64 0)), (.val (.int .i64 0)), (.val (.int .i64 0)), (.val (.int .i64 0)), (.val (.int .i64 0)), (.val (.int .i64 0)), (.val (.int .i64 0)), (.val (.int .i64 0))], none, 0, [], true, []⟩, ⟨none, .store 8 (.tmp 5) (.tmp 11), none, 1, [], true, []⟩] 1)
 (.region [⟨(some 12), .mov (.tmp 3), none, 0, [], true, []⟩, ⟨(some 13), .load (some 8) (.tmp 5), none, 0, [], true, []⟩, ⟨(some 14), .call 74 [(.tmp 13)], none, 0, [], true, []⟩, ⟨(some 15), .bin false .add (.tmp 12) (.tmp 14), none, 1, [], true, []⟩, ⟨(some 3), .mov (.tmp 15), none, 1, [], true, []⟩] 1)))
 (.region [⟨(some 16), .bin false .add (.tmp 8) (.const (.int .i64 1)), none, 0, [], true, []⟩, ⟨(some 8), .mov (.tmp 16), none, 0, [], true, []⟩] 0))))
def rs_60_1 : ACode := (.seq (.region [⟨(some 17), .mov (.tmp 3), none, 0, [], true, []⟩, ⟨(some 2), .mov (.tmp 17), none, 0, [], true, []⟩] 0)
 .ret)
def af_60 : AFun := ⟨18, [.inl 2], (.seq (.region [⟨(some 2), .mov (.const (.int .i64 0)), none, 0, [], true, []⟩] 0)
 (.seq (.region [⟨(some 3), .mov (.const (.int .i64 0)), none, 0, [], true, []⟩] 0)
 (.seq (.seq (.region [⟨(some 6), .mov (.tmp 0), none, 0, [], true, []⟩, ⟨(some 7), .len false (.tmp 6), none, 0, [], true, []⟩, ⟨(some 8), .mov (.const (.int .i64 0)), none, 0, [], true, []⟩] 0)
 (.block 0 (.loop lp_60_0)))
 rs_60_1)))⟩
def rg_98_0 : List AOper := [⟨(some 17), .mov (.tmp 0), none, 0, [], true, []⟩, ⟨(some 18), .mov (.tmp 0), none, 0, [], true, []⟩, ⟨(some 19), .mov (.tmp 0), none, 0, [], true, []⟩, ⟨(some 20), .nilCheck (.tmp 19), none, 0, [], true, []⟩, ⟨(some 21), .faddr 4 (.tmp 20), none, 0, [], true, []⟩, ⟨(some 22), .load none (.tmp 21), none, 0, [], true, []⟩, ⟨(some 23), .len false (.tmp 22), none, 0, [], true, []⟩, ⟨(some 24), .mkSlice 8 64 [(.val (.int .i64 0)), (.val (.int .i64 0)), (.val (.int .i64 0)), (.val (.int .i64 0)), (.val (.int .i64 0)), (.val (.int .i64 0)), (.val (.int .i64 0)), (.val (.int .i64 0))] (.tmp 23) (.tmp 23), none, 0, [], true, []⟩, ⟨(some 25), .mov (.tmp 2), none, 1, [], true, []⟩, ⟨(some 26), .nilCheck (.tmp 17), none, 1, [], true, []⟩, ⟨(some 27), .faddr 9 (.tmp 26), none, 1, [], true, []⟩, ⟨none, .store 1 (.tmp 27) (.tmp 24), none, 1, [], true, []⟩, ⟨(some 28), .nilCheck (.tmp 18), none, 1, [], true, []⟩, ⟨(some 29), .faddr 10 (.tmp 28), none, 1, [], true, []⟩, ⟨none, .store 1 (.tmp 29) (.tmp 25), none, 1, [], true, []⟩]
def rg_98_1 : List AOper := [⟨(some 30), .mov (.tmp 0), none, 0, [], true, []⟩, ⟨(some 31), .nilCheck (.tmp 30), none, 0, [3, 4, 5], false, []⟩, ⟨(some 32), .faddr 9 (.tmp 31), none, 1, [3, 4, 5], false, []⟩, ⟨(some 33), .load none (.tmp 32), none, 2, [3, 4, 5], false, []⟩, ⟨(some 34), .mov (.tmp 0), none, 3, [], true, []⟩, ⟨(some 35), .nilCheck (.tmp 34), none, 3, [0, 1, 2], false, []⟩, ⟨(some 36), .faddr 4 (.tmp 35), none, 4, [0, 1, 2], false, []⟩, ⟨(some 37), .load none (.tmp 36), none, 5, [0, 1, 2], false, []⟩, ⟨(some 38), .copy 8 (.tmp 33) (.tmp 37), none, 6, [], true, []⟩]
def rg_98_2 : List AOper := [⟨(some 39), .mov (.tmp 0), none, 0, [], true, []⟩, ⟨(some 40), .nilCheck (.tmp 39), none, 0, [3, 4, 5, 6, 7], false, []⟩, ⟨(some 41), .faddr 4 (.tmp 40), none, 1, [3, 4, 5, 6, 7], false, []⟩, ⟨(some 42), .load none (.tmp 41), none, 2, [3, 4, 5, 6, 7], false, []⟩, ⟨(some 43), .mov (.tmp 0), none, 3, [], true, []⟩, ⟨(some 44), .nilCheck (.tmp 43), none, 3, [0, 1, 2], false, []⟩, ⟨(some 45), .faddr 5 (.tmp 44), none, 4, [0, 1, 2], false, []⟩, ⟨(some 46), .load none (.tmp 45), none, 5, [0, 1, 2], false, []⟩, ⟨(some 47), .mov (.tmp 1), none, 6, [], true, []⟩, ⟨(some 48), .iaddr 1 (.tmp 46) (.tmp 47), none, 6, [0, 1, 2], false, []⟩, ⟨(some 49), .load none (.tmp 48), none, 7, [0, 1, 2], false, []⟩, ⟨(some 50), .iaddr 8 (.tmp 42) (.tmp 49), none, 8, [], true, []⟩, ⟨(some 6), .mov (.tmp 50), none, 9, [], true, []⟩]
def rg_98_3 : List AOper := [⟨(some 51), .mov (.tmp 0), none, 0, [], true, []⟩, ⟨(some 52), .nilCheck (.tmp 51), none, 0, [], true, []⟩, ⟨(some 53), .faddr 6 (.tmp 52), none, 0, [], true, []⟩, ⟨(some 54), .load none (.tmp 53), none, 0, [], true, []⟩, ⟨(some 55), .mov (.tmp 1), none, 0, [], true, []⟩, ⟨(some 56), .iaddr 1 (.tmp 54) (.tmp 55), none, 0, [], true, []⟩, ⟨(some 57), .load none (.tmp 56), none, 0, [], true, []⟩, ⟨(some 58), .len false (.tmp 57), none, 0, [], true, []⟩, ⟨(some 59), .mov (.const (.int .i64 0)), none, 0, [], true, []⟩]
def rg_98_4 : List AOper := [⟨(some 73), .mov (.tmp 0), none, 0, [], true, []⟩, ⟨(some 74), .nilCheck (.tmp 73), none, 0, [], true, []⟩, ⟨(some 75), .faddr 9 (.tmp 74), none, 1, [], true, []⟩, ⟨(some 76), .load none (.tmp 75), none, 2, [], true, []⟩, ⟨(some 77), .eqNil 0 .neq (.tmp 76) (.const (.slice none 0 0)), none, 3, [], true, []⟩, ⟨(some 78), .mov (.tmp 77), none, 4, [], true, []⟩, ⟨(some 79), .mov (.tmp 9), (some ((some 78), true)), 4, [], true, []⟩, ⟨(some 80), .mov (.tmp 0), (some ((some 78), true)), 4, [], true, []⟩, ⟨(some 81), .nilCheck (.tmp 80), (some ((some 78), true)), 4, [9, 10, 11], false, []⟩, ⟨(some 82), .faddr 7 (.tmp 81), (some ((some 78), true)), 5, [9, 10, 11], false, []⟩, ⟨(some 83), .load none (.tmp 82), (some ((some 78), true)), 6, [9, 10, 11], false, []⟩, ⟨(some 84), .mov (.tmp 1), (some ((some 78), true)), 7, [], true, []⟩, ⟨(some 85), .bin false .add (.tmp 84) (.const (.int .i64 1)), (some ((some 78), true)), 7, [], true, []⟩, ⟨(some 86), .iaddr 1 (.tmp 83) (.tmp 85), (some ((some 78), true)), 7, [9, 10, 11], false, []⟩, ⟨(some 87), .load none (.tmp 86), (some ((some 78), true)), 8, [9, 10, 11], false, []⟩, ⟨(some 88), .bin false .add (.tmp 79) (.tmp 87), (some ((some 78), true)), 9, [], true, []⟩, ⟨(some 89), .mov (.tmp 0), (some ((some 78), true)), 9, [], true, []⟩, ⟨(some 90), .nilCheck (.tmp 89), (some ((some 78), true)), 9, [4, 5, 6, 7, 8], false, []⟩, ⟨(some 91), .faddr 10 (.tmp 90), (some ((some 78), true)), 10, [4, 5, 6, 7, 8], false, []⟩, ⟨(some 92), .load none (.tmp 91), (some ((some 78), true)), 11, [4, 5, 6, 7, 8], false, []⟩, ⟨(some 93), .bin false .geq (.tmp 88) (.tmp 92), (some ((some 78), true)), 12, [], true, []⟩, ⟨(some 94), .pick (.tmp 78) (.tmp 93) (.const (.bool false)), none, 12, [], true, []⟩]
def lp_98_5 : ACode := (.seq (.region [⟨(some 60), .bin false .lss (.tmp 59) (.tmp 58), none, 0, [], true, []⟩] 0)
 (.seq (.cond (.tmp 60)
 .skip
 (.exit 0))
 (.seq (.block 1 (.seq (.region [⟨(some 61), .iaddr 1 (.tmp 57) (.tmp 59), none, 0, [], true, []⟩, ⟨(some 62), .load none (.tmp 61), none, 0, [], true, []⟩, ⟨(some 8), .mov (.tmp 62), none, 0, [], true, []⟩] 0)
 (.seq (.region [⟨(some 63), .mov (.tmp 6), none, 0, [], true, []⟩, ⟨(some 64), .mov (.tmp 8), none, 0, [], true, []⟩, ⟨(some 65), .nilCheck (.tmp 63), none, 0, [], true, []⟩, ⟨(some 66), .faddr 7 (.tmp 65), none, 0, [], true, []⟩, ⟨none, .store 1 (.tmp 66) (.tmp 64), none, 0, [], true, []⟩] 0)
 (.seq (.region [⟨(some 67), .mov (.tmp 2), none, 0, [], true, []⟩, ⟨(some 68), .mov (.tmp 6), none, 0, [], true, []⟩, ⟨(some 69), .nilCheck (.tmp 68), none, 0, [], true, []⟩, ⟨(some 70), .load (some 8) (.tmp 69), none, 0, [], true, []⟩, ⟨(some 71), .call 74 [(.tmp 70)], none, 0, [], true, []⟩, ⟨(some 72), .bin false .add (.tmp 67) (.tmp 71), none, 1, [], true, []⟩, ⟨(some 9), .mov (.tmp 72), none, 1, [], true, []⟩] 1)
 (.seq (.seq (.region rg_98_4 12)
 (.cond (.tmp 94)
 .ret
 .skip))
 (.seq (.region [⟨(some 95), .mov (.tmp 0), none, 0, [], true, []⟩, ⟨(some 96), .mov (.tmp 1), none, 0, [], true, []⟩, ⟨(some 97), .call 112 [(.tmp 95), (.tmp 96)], none, 0, [], true, []⟩] 1)
 (.cond (.tmp 97)
 (.seq (.region [⟨(some 98), .mov (.tmp 0), none, 0, [], true, []⟩, ⟨(some 99), .nilCheck (.tmp 98), none, 0, [3, 4], false, []⟩, ⟨(some 100), .faddr 8 (.tmp 99), none, 1, [3, 4], false, []⟩, ⟨(some 101), .load none (.tmp 100), none, 2, [3, 4], false, []⟩, ⟨(some 102), .mov (.tmp 6), none, 3, [], true, []⟩, ⟨(some 103), .nilCheck (.tmp 102), none, 3, [0, 1, 2], false, []⟩, ⟨(some 104), .load (some 8) (.tmp 103), none, 4, [0, 1, 2], false, []⟩, ⟨(some 105), .call 92 [(.tmp 101), (.tmp 104), (.const (.int .i64 1))], none, 5, [], true, []⟩] 6)
 (.seq (.region [⟨(some 106), .mov (.tmp 0), none, 0, [], true, []⟩, ⟨(some 107), .mov (.tmp 1), none, 0, [], true, []⟩, ⟨(some 108), .bin false .add (.tmp 107) (.const (.int .i64 1)), none, 0, [], true, []⟩, ⟨(some 109), .mov (.tmp 9), none, 0, [], true, []⟩, ⟨(some 110), .call 98 [(.tmp 106), (.tmp 108), (.tmp 109)], none, 0, [], true, []⟩] 1)
 (.region [⟨(some 111), .mov (.tmp 0), none, 0, [], true, []⟩, ⟨(some 112), .nilCheck (.tmp 111), none, 0, [3, 4], false, []⟩, ⟨(some 113), .faddr 8 (.tmp 112), none, 1, [3, 4], false, []⟩, ⟨(some 114), .load none (.tmp 113), none, 2, [3, 4], false, []⟩, ⟨(some 115), .mov (.tmp 6), none, 3, [], true, []⟩, ⟨(some 116), .nilCheck (.tmp 115), none, 3, [0, 1, 2], false, []⟩, ⟨(some 117), .load (some 8) (.tmp 116), none, 4, [0, 1, 2], false, []⟩, ⟨(some 118), .call 92 [(.tmp 114), (.tmp 117), (.const (.int .i64 (-1)))], none, 5, [], true, []⟩] 6)))
 .skip)))))))
 (.region [⟨(some 119), .bin false .add (.tmp 59) (.const (.int .i64 1)), none, 0, [], true, []⟩, ⟨(some 59), .mov (.tmp 119), none, 0, [], true, []⟩] 0))))
def af_98 : AFun := ⟨120, [], (.seq (.seq (.region [⟨(some 10), .mov (.tmp 1), none, 0, [], true, []⟩, ⟨(some 11), .mov (.tmp 0), none, 0, [], true, []⟩, ⟨(some 12), .nilCheck (.tmp 11), none, 0, [], true, []⟩, ⟨(some 13), .faddr 5 (.tmp 12), none, 0, [], true, []⟩, ⟨(some 14), .load none (.tmp 13), none, 0, [], true, []⟩, ⟨(some 15), .len false (.tmp 14), none, 0, [], true, []⟩, ⟨(some 16), .bin false .eql (.tmp 10) (.tmp 15), none, 0, [], true, []⟩] 0)
 (.cond (.tmp 16)
 (.seq (.region rg_98_0 1)
 (.seq (.region rg_98_1 7)
 .ret))
 .skip))
 (.seq (.region rg_98_2 9)
 (.seq (.region rg_98_3 0)
 (.block 0 (.loop lp_98_5)))))⟩
def af_80 : AFun := ⟨12, [.inl 5], (.seq (.region [⟨(some 3), .box 8 (.tmp 0), none, 0, [], true, []⟩, ⟨(some 5), .mov (.const (.bool false)), none, 1, [], true, []⟩] 1)
 (.seq (.region [⟨(some 6), .faddr 2 (.tmp 2), none, 0, [], true, []⟩, ⟨(some 7), .load none (.tmp 6), none, 0, [], true, []⟩, ⟨(some 8), .mov (.tmp 1), none, 0, [], true, []⟩, ⟨(some 9), .iaddr 1 (.tmp 7) (.tmp 8), none, 0, [], true, []⟩, ⟨(some 10), .load none (.tmp 9), none, 0, [], true, []⟩, ⟨(some 11), .bin false .eql (.tmp 10) (.const (.int .i64 0)), none, 0, [], true, []⟩, ⟨(some 5), .mov (.tmp 11), none, 0, [], true, []⟩] 0)
 .ret))⟩
def rg_81_0 : List AOper := [⟨(some 6), .faddr 3 (.tmp 2), none, 0, [4, 5, 6], false, []⟩, ⟨(some 7), .load none (.tmp 6), none, 1, [4, 5, 6], false, []⟩, ⟨(some 8), .mov (.tmp 1), none, 2, [], true, []⟩, ⟨(some 9), .iaddr 1 (.tmp 7) (.tmp 8), none, 2, [4, 5, 6], false, []⟩, ⟨(some 10), .load none (.tmp 9), none, 3, [4, 5, 6], false, []⟩, ⟨(some 11), .faddr 0 (.tmp 3), none, 4, [0, 1, 2, 3], false, []⟩, ⟨(some 12), .faddr 3 (.tmp 11), none, 5, [0, 1, 2, 3], false, []⟩, ⟨(some 13), .load none (.tmp 12), none, 6, [0, 1, 2, 3], false, []⟩, ⟨(some 14), .bin false .lss (.tmp 10) (.tmp 13), none, 7, [], true, []⟩, ⟨(some 5), .mov (.tmp 14), none, 7, [], true, []⟩]
def af_81 : AFun := ⟨15, [.inl 5], (.seq (.region [⟨(some 3), .box 8 (.tmp 0), none, 0, [], true, []⟩, ⟨(some 5), .mov (.const (.bool false)), none, 1, [], true, []⟩] 1)
 (.seq (.region rg_81_0 7)
 .ret))⟩
def af_82 : AFun := ⟨4, [.inr (1, (some 4))], (.seq (.region [⟨(some 1), .zero [(.val (.int .u8 0)), (.val (.int .i64 0)), (.val (.int .i64 0)), (.val (.int .i64 0))], none, 0, [], true, []⟩] 1)
 (.seq (.region [⟨(some 2), .load none (.tmp 0), none, 0, [], true, []⟩, ⟨(some 3), .call 83 [(.tmp 2)], none, 0, [], true, []⟩, ⟨none, .store 4 (.tmp 1) (.tmp 3), none, 1, [], true, []⟩] 1)
 .ret))⟩
def af_84 : AFun := ⟨6, [.inr (2, (some 4))], (.seq (.region [⟨(some 2), .zero [(.val (.int .u8 0)), (.val (.int .i64 0)), (.val (.int .i64 0)), (.val (.int .i64 0))], none, 0, [], true, []⟩] 1)
 (.seq (.region [⟨(some 3), .load none (.tmp 0), none, 0, [], true, []⟩, ⟨(some 4), .load none (.tmp 1), none, 0, [], true, []⟩, ⟨(some 5), .call 85 [(.tmp 3), (.const (.int .u8 2)), (.tmp 4)], none, 0, [], true, []⟩, ⟨none, .store 4 (.tmp 2) (.tmp 5), none, 1, [], true, []⟩] 1)
 .ret))⟩
def af_86 : AFun := ⟨6, [.inr (2, (some 4))], (.seq (.region [⟨(some 2), .zero [(.val (.int .u8 0)), (.val (.int .i64 0)), (.val (.int .i64 0)), (.val (.int .i64 0))], none, 0, [], true, []⟩] 1)
 (.seq (.region [⟨(some 3), .load none (.tmp 0), none, 0, [], true, []⟩, ⟨(some 4), .load none (.tmp 1), none, 0, [], true, []⟩, ⟨(some 5), .call 85 [(.tmp 3), (.const (.int .u8 3)), (.tmp 4)], none, 0, [], true, []⟩, ⟨none, .store 4 (.tmp 2) (.tmp 5), none, 1, [], true, []⟩] 1)
 .ret))⟩
def af_87 : AFun := ⟨6, [.inr (2, (some 4))], (.seq (.region [⟨(some 2), .zero [(.val (.int .u8 0)), (.val (.int .i64 0)), (.val (.int .i64 0)), (.val (.int .i64 0))], none, 0, [], true, []⟩] 1)
 (.seq (.region [⟨(some 3), .load (some 4) (.tmp 0), none, 0, [], true, []⟩, ⟨(some 4), .load none (.tmp 1), none, 0, [], true, []⟩, ⟨(some 5), .call 88 [(.tmp 3), (.tmp 4)], none, 0, [], true, []⟩, ⟨none, .store 4 (.tmp 2) (.tmp 5), none, 1, [], true, []⟩] 1)
 .ret))⟩
def af_89 : AFun := ⟨6, [.inr (2, (some 4))], (.seq (.region [⟨(some 2), .zero [(.val (.int .u8 0)), (.val (.int .i64 0)), (.val (.int .i64 0)), (.val (.int .i64 0))], none, 0, [], true, []⟩] 1)
 (.seq (.region [⟨(some 3), .load (some 4) (.tmp 0), none, 0, [], true, []⟩, ⟨(some 4), .load none (.tmp 1), none, 0, [], true, []⟩, ⟨(some 5), .call 90 [(.tmp 3), (.tmp 4)], none, 0, [], true, []⟩, ⟨none, .store 4 (.tmp 2) (.tmp 5), none, 1, [], true, []⟩] 1)
 .ret))⟩
def af_99 : AFun := ⟨9, [.inl 2], (.seq (.region [⟨(some 1), .box 8 (.tmp 0), none, 0, [], true, []⟩, ⟨(some 2), .mov (.const (.int .i64 0)), none, 1, [], true, []⟩] 1)
 (.seq (.region [⟨(some 3), .faddr 7 (.tmp 1), none, 0, [], true, []⟩, ⟨(some 4), .load none (.tmp 3), none, 0, [], true, []⟩, ⟨(some 5), .faddr 0 (.tmp 1), none, 0, [], true, []⟩, ⟨(some 6), .faddr 2 (.tmp 5), none, 0, [], true, []⟩, ⟨(some 7), .load none (.tmp 6), none, 0, [], true, []⟩, ⟨(some 8), .bin false .add (.tmp 4) (.tmp 7), none, 0, [], true, []⟩, ⟨(some 2), .mov (.tmp 8), none, 0, [], true, []⟩] 0)
 .ret))⟩
def af_65 : AFun := ⟨9, [.inl 2], (.seq (.region [⟨(some 1), .box 8 (.tmp 0), none, 0, [], true, []⟩, ⟨(some 2), .mov (.const (.int .i64 0)), none, 1, [], true, []⟩] 1)
 (.seq (.region [⟨(some 3), .faddr 7 (.tmp 1), none, 0, [], true, []⟩, ⟨(some 4), .load none (.tmp 3), none, 0, [], true, []⟩, ⟨(some 5), .faddr 0 (.tmp 1), none, 0, [], true, []⟩, ⟨(some 6), .faddr 1 (.tmp 5), none, 0, [], true, []⟩, ⟨(some 7), .load none (.tmp 6), none, 0, [], true, []⟩, ⟨(some 8), .bin false .sub (.tmp 4) (.tmp 7), none, 0, [], true, []⟩, ⟨(some 2), .mov (.tmp 8), none, 0, [], true, []⟩] 0)
 .ret))⟩
def lp_104_0 : ACode := (.seq (.region [⟨(some 9), .bin false .lss (.tmp 8) (.tmp 7), none, 0, [], true, []⟩] 0)
 (.seq (.cond (.tmp 9)
 .skip
 (.exit 0))
 (.seq (.block 1 (.seq (.region [⟨(some 10), .mov (.tmp 8), none, 0, [], true, []⟩, ⟨(some 5), .mov (.tmp 10), none, 0, [], true, []⟩] 0)
 (.seq (.region [⟨(some 11), .mov (.tmp 1), none, 0, [], true, []⟩, ⟨(some 12), .mov (.tmp 0), none, 0, [], true, []⟩, ⟨(some 13), .mov (.tmp 5), none, 0, [], true, []⟩, ⟨(some 14), .iaddr 8 (.tmp 12) (.tmp 13), none, 0, [], true, []⟩, ⟨(some 15), .load (some 8) (.tmp 14), none, 0, [], true, []⟩, ⟨(some 16), .callv (.tmp 11) [(.tmp 15)], none, 0, [], true, []⟩] 1)
 (.cond (.tmp 16)
 (.seq (.region [⟨(some 17), .mov (.tmp 5), none, 0, [], true, []⟩, ⟨(some 4), .mov (.tmp 17), none, 0, [], true, []⟩] 0)
 .ret)
 .skip))))
 (.region [⟨(some 18), .bin false .add (.tmp 8) (.const (.int .i64 1)), none, 0, [], true, []⟩, ⟨(some 8), .mov (.tmp 18), none, 0, [], true, []⟩] 0))))
def rs_104_1 : ACode := (.seq (.region [⟨(some 4), .mov (.const (.int .i64 (-1))), none, 0, [], true, []⟩] 0)
 .ret)
def af_104 : AFun := ⟨19, [.inl 4], (.seq (.region [⟨(some 4), .mov (.const (.int .i64 0)), none, 0, [], true, []⟩] 0)
 (.seq (.seq (.region [⟨(some 6), .mov (.tmp 0), none, 0, [], true, []⟩, ⟨(some 7), .len false (.tmp 6), none, 0, [], true, []⟩, ⟨(some 8), .mov (.const (.int .i64 0)), none, 0, [], true, []⟩] 0)
 (.block 0 (.loop lp_104_0)))
 rs_104_1))⟩
def rg_17_0 : List AOper := [⟨(some 5), .faddr 2 (.tmp 1), none, 0, [], true, []⟩, ⟨(some 6), .load none (.tmp 5), none, 0, [], true, []⟩, ⟨(some 7), .len false (.tmp 6), none, 0, [], true, []⟩, ⟨(some 8), .call 49 [(.const (.int .i64 1)), (.tmp 7), (.const (.int .i64 96))], none, 0, [], true, []⟩, ⟨(some 9), .mov (.tmp 8), none, 1, [], true, []⟩, ⟨(some 10), .faddr 3 (.tmp 1), (some ((some 9), true)), 1, [], true, []⟩, ⟨(some 11), .load none (.tmp 10), (some ((some 9), true)), 1, [], true, []⟩, ⟨(some 12), .len false (.tmp 11), (some ((some 9), true)), 1, [], true, []⟩, ⟨(some 13), .faddr 2 (.tmp 1), (some ((some 9), true)), 1, [], true, []⟩, ⟨(some 14), .load none (.tmp 13), (some ((some 9), true)), 1, [], true, []⟩, ⟨(some 15), .len false (.tmp 14), (some ((some 9), true)), 1, [], true, []⟩, ⟨(some 16), .bin false .eql (.tmp 12) (.tmp 15), (some ((some 9), true)), 1, [], true, []⟩, ⟨(some 17), .pick (.tmp 9) (.tmp 16) (.const (.bool false)), none, 1, [], true, []⟩, ⟨(some 18), .mov (.tmp 17), none, 1, [], true, []⟩, ⟨(some 19), .faddr 2 (.tmp 1), (some ((some 18), true)), 1, [], true, []⟩, ⟨(some 20), .load none (.tmp 19), (some ((some 18), true)), 1, [], true, []⟩, ⟨(some 21), .mov (.tmp 3), (some ((some 18), true)), 1, [], true, []⟩, ⟨(some 22), .call 52 [(.tmp 20), (.tmp 21)], (some ((some 18), true)), 1, [], true, []⟩, ⟨(some 23), .un .not (.tmp 22), (some ((some 18), true)), 2, [], true, []⟩, ⟨(some 24), .pick (.tmp 18) (.tmp 23) (.const (.bool false)), none, 2, [], true, []⟩, ⟨(some 25), .mov (.tmp 24), none, 2, [], true, []⟩, ⟨(some 26), .faddr 3 (.tmp 1), (some ((some 25), true)), 2, [], true, []⟩, ⟨(some 27), .load none (.tmp 26), (some ((some 25), true)), 2, [], true, []⟩, ⟨(some 28), .mov (.tmp 4), (some ((some 25), true)), 2, [], true, []⟩, ⟨(some 29), .call 52 [(.tmp 27), (.tmp 28)], (some ((some 25), true)), 2, [], true, []⟩, ⟨(some 30), .un .not (.tmp 29), (some ((some 25), true)), 3, [], true, []⟩, ⟨(some 31), .pick (.tmp 25) (.tmp 30) (.const (.bool false)), none, 3, [], true, []⟩, ⟨(some 32), .mov (.tmp 31), none, 3, [], true, []⟩, ⟨(some 33), .faddr 0 (.tmp 1), (some ((some 32), true)), 3, [], true, []⟩, ⟨(some 34), .load none (.tmp 33), (some ((some 32), true)), 3, [], true, []⟩, ⟨(some 35), .call 49 [(.const (.int .i64 1)), (.tmp 34), (.const (.int .i64 4))], (some ((some 32), true)), 3, [], true, []⟩, ⟨(some 36), .pick (.tmp 32) (.tmp 35) (.const (.bool false)), none, 4, [], true, []⟩, ⟨(some 37), .mov (.tmp 36), none, 4, [], true, []⟩, ⟨(some 38), .faddr 1 (.tmp 1), (some ((some 37), true)), 4, [], true, []⟩, ⟨(some 39), .load none (.tmp 38), (some ((some 37), true)), 4, [], true, []⟩, ⟨(some 40), .call 49 [(.const (.int .i64 0)), (.tmp 39), (.const (.int .i64 6))], (some ((some 37), true)), 4, [], true, []⟩, ⟨(some 41), .pick (.tmp 37) (.tmp 40) (.const (.bool false)), none, 5, [], true, []⟩, ⟨(some 42), .call 51 [(.tmp 41)], none, 5, [], true, []⟩, ⟨(some 2), .mov (.tmp 42), none, 6, [], true, []⟩]
def af_17 : AFun := ⟨43, [.inl 2], (.seq (.region [⟨(some 1), .box 4 (.tmp 0), none, 0, [], true, []⟩, ⟨(some 2), .mov (.const (.int .i64 0)), none, 1, [], true, []⟩] 1)
 (.seq (.region [⟨(some 3), .mov (.func 48), none, 0, [], true, []⟩] 0)
 (.seq (.region [⟨(some 4), .mov (.func 50), none, 0, [], true, []⟩] 0)
 (.seq (.region rg_17_0 6)
 .ret))))⟩
def af_53 : AFun := ⟨8, [.inl 3], (.seq (.region [⟨(some 2), .box 7 (.tmp 0), none, 0, [], true, []⟩, ⟨(some 3), .mov (.const (.bool false)), none, 1, [], true, []⟩] 1)
 (.seq (.region [⟨(some 4), .load (some 4) (.tmp 1), none, 0, [], true, []⟩, ⟨(some 5), .load (some 7) (.tmp 2), none, 0, [], true, []⟩, ⟨(some 6), .call 54 [(.tmp 4), (.tmp 5)], none, 0, [], true, []⟩, ⟨(some 7), .un .not (.tmp 6), none, 1, [], true, []⟩, ⟨(some 3), .mov (.tmp 7), none, 1, [], true, []⟩] 1)
 .ret))⟩
def af_55 : AFun := ⟨9, [.inl 4], (.seq (.region [⟨(some 4), .mov (.const (.bool false)), none, 0, [], true, []⟩] 0)
 (.seq (.region [⟨(some 5), .mov (.tmp 0), none, 0, [], true, []⟩, ⟨(some 6), .mov (.tmp 1), none, 0, [], true, []⟩, ⟨(some 7), .call 79 [(.tmp 5), (.tmp 6)], none, 0, [], true, []⟩, ⟨(some 8), .bin false .geq (.tmp 7) (.const (.int .i64 0)), none, 1, [], true, []⟩, ⟨(some 4), .mov (.tmp 8), none, 1, [], true, []⟩] 1)
 .ret))⟩
def af_51 : AFun := ⟨5, [.inl 2], (.seq (.region [⟨(some 2), .mov (.const (.int .i64 0)), none, 0, [], true, []⟩] 0)
 (.seq (.seq (.region [⟨(some 3), .mov (.tmp 0), none, 0, [], true, []⟩, ⟨(some 4), .un .not (.tmp 3), none, 0, [], true, []⟩] 0)
 (.cond (.tmp 4)
 (.seq (.region [⟨(some 2), .mov (.const (.int .i64 2)), none, 0, [], true, []⟩] 0)
 .ret)
 .skip))
 (.seq (.region [⟨(some 2), .mov (.const (.int .i64 0)), none, 0, [], true, []⟩] 0)
 .ret)))⟩
def lp_61_0 : ACode := (.seq (.region [⟨(some 15), .bin false .lss (.tmp 14) (.tmp 13), none, 0, [], true, []⟩] 0)
 (.seq (.cond (.tmp 15)
 .skip
 (.exit 0))
 (.seq (.block 1 (.seq (.region [⟨(some 16), .iaddr 8 (.tmp 12) (.tmp 14), none, 0, [], true, []⟩, ⟨(some 17), .load (some 8) (.tmp 16), none, 0, [], true, []⟩, ⟨(some 7), .zero [(.val (.int .i64 0)), (.val (.int .i64 0)), (.val (.int .i64 0)), (.val (.int .i64 0)), (.val (.int .i64 0)), (.val (.int .i64 0)), (.val (.int .i64 0)), (.val (.int .i64 0))], none, 0, [], true, []⟩, ⟨none, .store 8 (.tmp 7) (.tmp 17), none, 1, [], true, []⟩] 1)
 (.region [⟨(some 18), .mov (.tmp 5), none, 0, [], true, []⟩, ⟨(some 19), .load (some 8) (.tmp 7), none, 0, [], true, []⟩, ⟨(some 20), .call 92 [(.tmp 18), (.tmp 19), (.const (.int .i64 1))], none, 0, [], true, []⟩] 1)))
 (.region [⟨(some 21), .bin false .add (.tmp 14) (.const (.int .i64 1)), none, 0, [], true, []⟩, ⟨(some 14), .mov (.tmp 21), none, 0, [], true, []⟩] 0))))
def rs_61_1 : ACode := (.seq (.region [⟨(some 22), .mov (.tmp 5), none, 0, [], true, []⟩, ⟨(some 4), .mov (.tmp 22), none, 0, [], true, []⟩] 0)
 .ret)
def af_61 : AFun := ⟨23, [.inl 4], (.seq (.region [⟨(some 2), .box 4 (.tmp 0), none, 0, [], true, []⟩, ⟨(some 4), .mov (.const (.slice none 0 0)), none, 1, [], true, []⟩] 1)
 (.seq (.region [⟨(some 8), .faddr 2 (.tmp 2), none, 0, [], true, []⟩, ⟨(some 9), .load none (.tmp 8), none, 0, [], true, []⟩, ⟨(some 10), .len false (.tmp 9), none, 0, [], true, []⟩, ⟨(some 11), .mkSlice 1 8 [(.val (.int .i64 0))] (.tmp 10) (.tmp 10), none, 0, [], true, []⟩, ⟨(some 5), .mov (.tmp 11), none, 1, [], true, []⟩] 1)
 (.seq (.seq (.region [⟨(some 12), .mov (.tmp 1), none, 0, [], true, []⟩, ⟨(some 13), .len false (.tmp 12), none, 0, [], true, []⟩, ⟨(some 14), .mov (.const (.int .i64 0)), none, 0, [], true, []⟩] 0)
 (.block 0 (.loop lp_61_0)))
 rs_61_1)))⟩
def af_110 : AFun := ⟨11, [.inl 4], (.seq (.region [⟨(some 4), .mov (.const (.bool false)), none, 0, [], true, []⟩] 0)
 (.seq (.region [⟨(some 5), .mov (.tmp 0), none, 0, [], true, []⟩, ⟨(some 6), .faddr 1 (.tmp 1), none, 0, [], true, []⟩, ⟨(some 7), .load none (.tmp 6), none, 0, [], true, []⟩, ⟨(some 8), .bin false .sub (.tmp 5) (.tmp 7), none, 0, [], true, []⟩, ⟨(some 9), .load none (.tmp 2), none, 0, [], true, []⟩, ⟨(some 10), .bin false .lss (.tmp 8) (.tmp 9), none, 0, [], true, []⟩, ⟨(some 4), .mov (.tmp 10), none, 0, [], true, []⟩] 0)
 .ret))⟩
def lp_73_0 : ACode := (.seq (.region [⟨(some 20), .bin false .lss (.tmp 19) (.tmp 18), none, 0, [], true, []⟩] 0)
 (.seq (.cond (.tmp 20)
 .skip
 (.exit 0))
 (.seq (.block 1 (.seq (.region [⟨(some 21), .mov (.tmp 19), none, 0, [], true, []⟩, ⟨(some 9), .mov (.tmp 21), none, 0, [], true, []⟩] 0)
 (.seq (.region [⟨(some 22), .mov (.tmp 8), none, 0, [], true, []⟩, ⟨(some 23), .mov (.tmp 1), none, 0, [], true, []⟩, ⟨(some 24), .len false (.tmp 23), none, 0, [], true, []⟩, ⟨(some 25), .mov (.tmp 9), none, 0, [], true, []⟩, ⟨(some 26), .iaddr 8 (.tmp 22) (.tmp 24), none, 0, [], true, []⟩, ⟨(some 27), .faddr 7 (.tmp 26), none, 0, [], true, []⟩, ⟨none, .store 1 (.tmp 27) (.tmp 25), none, 0, [], true, []⟩] 0)
 (.seq (.region [⟨(some 28), .load (some 4) (.tmp 3), none, 0, [], true, []⟩, ⟨(some 29), .mov (.tmp 8), none, 0, [], true, []⟩, ⟨(some 30), .call 91 [(.tmp 28), (.tmp 29)], none, 0, [], true, []⟩] 1)
 (.cond (.tmp 30)
 (.region [⟨(some 31), .mov (.tmp 7), none, 0, [], true, []⟩, ⟨(some 32), .mov (.tmp 9), none, 0, [], true, []⟩, ⟨(some 33), .bslice 1 1 [(.val (.int .i64 0))] [(0, (.tmp 32))], none, 0, [], true, []⟩, ⟨(some 34), .append 1 (.tmp 31) (.tmp 33), none, 1, [], true, []⟩, ⟨(some 7), .mov (.tmp 34), none, 2, [], true, []⟩] 2)
 .skip)))))
 (.region [⟨(some 35), .bin false .add (.tmp 19) (.const (.int .i64 1)), none, 0, [], true, []⟩, ⟨(some 19), .mov (.tmp 35), none, 0, [], true, []⟩] 0))))
def rs_73_1 : ACode := (.seq (.region [⟨(some 36), .mov (.tmp 7), none, 0, [], true, []⟩, ⟨(some 6), .mov (.tmp 36), none, 0, [], true, []⟩] 0)
 .ret)
def af_73 : AFun := ⟨37, [.inl 6], (.seq (.region [⟨(some 3), .box 4 (.tmp 0), none, 0, [], true, []⟩, ⟨(some 5), .box 7 (.tmp 2), none, 1, [], true, []⟩, ⟨(some 6), .mov (.const (.slice none 0 0)), none, 2, [], true, []⟩] 2)
 (.seq (.region [⟨(some 7), .mov (.const (.slice none 0 0)), none, 0, [], true, []⟩] 0)
 (.seq (.region [⟨(some 10), .mov (.tmp 1), none, 0, [], true, []⟩, ⟨(some 11), .call 95 [(.tmp 10)], none, 0, [1, 2], false, []⟩, ⟨(some 12), .load (some 7) (.tmp 5), none, 1, [0], false, []⟩, ⟨(some 13), .build [(.val (.int .i64 0)), (.val (.int .i64 0)), (.val (.int .i64 0)), (.val (.int .i64 0)), (.val (.int .i64 0)), (.val (.int .i64 0)), (.val (.int .i64 0)), (.val (.int .i64 0))] [(0, 7, (.tmp 12))], none, 2, [], true, []⟩, ⟨(some 14), .bslice 8 1 [(.val (.int .i64 0)), (.val (.int .i64 0)), (.val (.int .i64 0)), (.val (.int .i64 0)), (.val (.int .i64 0)), (.val (.int .i64 0)), (.val (.int .i64 0)), (.val (.int .i64 0))] [(0, (.tmp 13))], none, 2, [0], false, []⟩, ⟨(some 15), .append 8 (.tmp 11) (.tmp 14), none, 3, [], true, []⟩, ⟨(some 8), .mov (.tmp 15), none, 4, [], true, []⟩] 4)
 (.seq (.seq (.region [⟨(some 16), .faddr 2 (.tmp 3), none, 0, [], true, []⟩, ⟨(some 17), .load none (.tmp 16), none, 0, [], true, []⟩, ⟨(some 18), .len false (.tmp 17), none, 0, [], true, []⟩, ⟨(some 19), .mov (.const (.int .i64 0)), none, 0, [], true, []⟩] 0)
 (.block 0 (.loop lp_73_0)))
 rs_73_1))))⟩
def lp_111_0 : ACode := (.seq (.seq (.region [⟨(some 16), .mov (.tmp 6), none, 0, [], true, []⟩, ⟨(some 17), .mov (.tmp 0), none, 0, [], true, []⟩, ⟨(some 18), .len false (.tmp 17), none, 0, [], true, []⟩, ⟨(some 19), .bin false .lss (.tmp 16) (.tmp 18), none, 0, [], true, []⟩] 0)
 (.cond (.tmp 19)
 .skip
 (.exit 0)))
 (.seq (.block 1 (.seq (.region [⟨(some 22), .mov (.tmp 0), none, 0, [], true, []⟩, ⟨(some 23), .mov (.tmp 6), none, 0, [], true, []⟩, ⟨(some 24), .iaddr 1 (.tmp 22) (.tmp 23), none, 0, [], true, []⟩, ⟨(some 25), .load none (.tmp 24), none, 0, [], true, []⟩, ⟨(some 7), .mov (.tmp 25), none, 0, [], true, []⟩] 0)
 (.seq (.region [⟨(some 26), .mov (.tmp 1), none, 0, [], true, []⟩, ⟨(some 27), .mov (.tmp 7), none, 0, [], true, []⟩, ⟨(some 28), .callv (.tmp 26) [(.tmp 27)], none, 0, [], true, []⟩, ⟨(some 29), .un .not (.tmp 28), none, 1, [], true, []⟩] 1)
 (.cond (.tmp 29)
 (.seq (.region [⟨(some 30), .mov (.tmp 0), none, 0, [], true, []⟩, ⟨(some 31), .mov (.tmp 5), none, 0, [], true, []⟩, ⟨(some 32), .mov (.tmp 7), none, 0, [], true, []⟩, ⟨(some 33), .iaddr 1 (.tmp 30) (.tmp 31), none, 0, [], true, []⟩, ⟨none, .store 1 (.tmp 33) (.tmp 32), none, 0, [], true, []⟩] 0)
 (.region [⟨(some 34), .mov (.tmp 5), none, 0, [], true, []⟩, ⟨(some 35), .bin false .add (.tmp 34) (.const (.int .i64 1)), none, 0, [], true, []⟩, ⟨(some 5), .mov (.tmp 35), none, 0, [], true, []⟩] 0))
 .skip))))
 (.region [⟨(some 20), .mov (.tmp 6), none, 0, [], true, []⟩, ⟨(some 21), .bin false .add (.tmp 20) (.const (.int .i64 1)), none, 0, [], true, []⟩, ⟨(some 6), .mov (.tmp 21), none, 0, [], true, []⟩] 0)))
def rs_111_1 : ACode := (.seq (.region [⟨(some 36), .mov (.tmp 0), none, 0, [], true, []⟩, ⟨(some 37), .mov (.tmp 5), none, 0, [], true, []⟩, ⟨(some 38), .slice 1 (.tmp 36) (some (.tmp 37)) none none, none, 0, [], true, []⟩, ⟨none, .clear 1 [(.val (.int .i64 0))] (.tmp 38), none, 0, [], true, []⟩] 0)
 (.seq (.region [⟨(some 39), .mov (.tmp 0), none, 0, [], true, []⟩, ⟨(some 40), .mov (.tmp 5), none, 0, [], true, []⟩, ⟨(some 41), .slice 1 (.tmp 39) none (some (.tmp 40)) none, none, 0, [], true, []⟩, ⟨(some 4), .mov (.tmp 41), none, 0, [], true, []⟩] 0)
 .ret))
def af_111 : AFun := ⟨42, [.inl 4], (.seq (.region [⟨(some 4), .mov (.const (.slice none 0 0)), none, 0, [], true, []⟩] 0)
 (.seq (.region [⟨(some 8), .mov (.tmp 0), none, 0, [], true, []⟩, ⟨(some 9), .mov (.tmp 1), none, 0, [], true, []⟩, ⟨(some 10), .call 66 [(.tmp 8), (.tmp 9)], none, 0, [], true, []⟩, ⟨(some 5), .mov (.tmp 10), none, 1, [], true, []⟩] 1)
 (.seq (.seq (.region [⟨(some 11), .mov (.tmp 5), none, 0, [], true, []⟩, ⟨(some 12), .bin false .eql (.tmp 11) (.const (.int .i64 (-1))), none, 0, [], true, []⟩] 0)
 (.cond (.tmp 12)
 (.seq (.region [⟨(some 13), .mov (.tmp 0), none, 0, [], true, []⟩, ⟨(some 4), .mov (.tmp 13), none, 0, [], true, []⟩] 0)
 .ret)
 .skip))
 (.seq (.seq (.region [⟨(some 14), .mov (.tmp 5), none, 0, [], true, []⟩, ⟨(some 15), .bin false .add (.tmp 14) (.const (.int .i64 1)), none, 0, [], true, []⟩, ⟨(some 6), .mov (.tmp 15), none, 0, [], true, []⟩] 0)
 (.block 0 (.loop lp_111_0)))
 rs_111_1))))⟩
def af_74 : AFun := ⟨9, [.inl 2], (.seq (.region [⟨(some 1), .box 8 (.tmp 0), none, 0, [], true, []⟩, ⟨(some 2), .mov (.const (.int .i64 0)), none, 1, [], true, []⟩] 1)
 (.seq (.region [⟨(some 3), .faddr 0 (.tmp 1), none, 0, [3, 4], false, []⟩, ⟨(some 4), .faddr 6 (.tmp 3), none, 1, [3, 4], false, []⟩, ⟨(some 5), .load none (.tmp 4), none, 2, [3, 4], false, []⟩, ⟨(some 6), .load (some 8) (.tmp 1), none, 3, [0, 1, 2], false, []⟩, ⟨(some 7), .call 99 [(.tmp 6)], none, 4, [0, 1, 2], false, []⟩, ⟨(some 8), .bin false .mul (.tmp 5) (.tmp 7), none, 5, [], true, []⟩, ⟨(some 2), .mov (.tmp 8), none, 5, [], true, []⟩] 5)
 .ret))⟩
def rg_112_0 : List AOper := [⟨(some 8), .load none (.tmp 2), none, 0, [4, 5, 6, 7, 8, 9, 12], false, []⟩, ⟨(some 9), .nilCheck (.tmp 8), none, 1, [4, 5, 6, 7, 8, 9, 12], false, []⟩, ⟨(some 10), .faddr 4 (.tmp 9), none, 2, [4, 5, 6, 7, 8, 9, 12], false, []⟩, ⟨(some 11), .load none (.tmp 10), none, 3, [4, 5, 6, 7, 8, 9, 12], false, []⟩, ⟨(some 12), .load none (.tmp 2), none, 4, [0, 1, 2, 3, 12], false, []⟩, ⟨(some 13), .nilCheck (.tmp 12), none, 5, [0, 1, 2, 3, 12], false, []⟩, ⟨(some 14), .faddr 5 (.tmp 13), none, 6, [0, 1, 2, 3, 12], false, []⟩, ⟨(some 15), .load none (.tmp 14), none, 7, [0, 1, 2, 3, 12], false, []⟩, ⟨(some 16), .mov (.tmp 1), none, 8, [], true, []⟩, ⟨(some 17), .iaddr 1 (.tmp 15) (.tmp 16), none, 8, [0, 1, 2, 3, 12], false, []⟩, ⟨(some 18), .load none (.tmp 17), none, 9, [0, 1, 2, 3, 12], false, []⟩, ⟨(some 19), .iaddr 8 (.tmp 11) (.tmp 18), none, 10, [12], false, []⟩, ⟨(some 20), .load (some 8) (.tmp 19), none, 11, [12], false, []⟩, ⟨(some 5), .zero [(.val (.int .i64 0)), (.val (.int .i64 0)), (.val (.int .i64 0)), (.val (.int .i64 0)), (.val (.int .i64 0)), (.val (.int .i64 0)), (.val (.int .i64 0)), (.val (.int .i64 0))], none, 12, [0, 1, 2, 3, 4, 5, 6, 7, 8, 9, 10, 11], false, []⟩, ⟨none, .store 8 (.tmp 5) (.tmp 20), none, 13, [], true, []⟩]
def rg_112_1 : List AOper := [⟨(some 23), .load none (.tmp 2), none, 0, [], true, []⟩, ⟨(some 24), .nilCheck (.tmp 23), none, 1, [], true, []⟩, ⟨(some 25), .faddr 5 (.tmp 24), none, 2, [], true, []⟩, ⟨(some 26), .load none (.tmp 25), none, 3, [], true, []⟩, ⟨(some 27), .mov (.tmp 1), none, 4, [], true, []⟩, ⟨(some 28), .slice 1 (.tmp 26) none (some (.tmp 27)) none, none, 4, [], true, []⟩, ⟨(some 29), .mov (.tmp 6), none, 5, [], true, []⟩, ⟨(some 30), .call 52 [(.tmp 28), (.tmp 29)], none, 5, [], true, []⟩, ⟨(some 31), .un .not (.tmp 30), none, 6, [], true, []⟩, ⟨(some 32), .mov (.tmp 31), none, 6, [], true, []⟩, ⟨(some 33), .load none (.tmp 2), (some ((some 32), true)), 6, [10, 11, 12, 13], false, []⟩, ⟨(some 34), .nilCheck (.tmp 33), (some ((some 32), true)), 7, [10, 11, 12, 13], false, []⟩, ⟨(some 35), .faddr 8 (.tmp 34), (some ((some 32), true)), 8, [10, 11, 12, 13], false, []⟩, ⟨(some 36), .load none (.tmp 35), (some ((some 32), true)), 9, [10, 11, 12, 13], false, []⟩, ⟨(some 37), .load (some 8) (.tmp 5), (some ((some 32), true)), 10, [6, 7, 8, 9, 12, 13], false, []⟩, ⟨(some 38), .call 65 [(.tmp 37)], (some ((some 32), true)), 11, [6, 7, 8, 9, 12, 13], false, []⟩, ⟨(some 39), .faddr 7 (.tmp 5), (some ((some 32), true)), 12, [6, 7, 8, 9, 10, 11], false, []⟩, ⟨(some 40), .load none (.tmp 39), (some ((some 32), true)), 13, [6, 7, 8, 9, 10, 11], false, []⟩, ⟨(some 41), .slice 1 (.tmp 36) (some (.tmp 38)) (some (.tmp 40)) none, (some ((some 32), true)), 14, [], true, []⟩, ⟨(some 42), .mov (.tmp 7), (some ((some 32), true)), 15, [], true, []⟩, ⟨(some 43), .call 52 [(.tmp 41), (.tmp 42)], (some ((some 32), true)), 15, [], true, []⟩, ⟨(some 44), .un .not (.tmp 43), (some ((some 32), true)), 16, [], true, []⟩, ⟨(some 45), .pick (.tmp 32) (.tmp 44) (.const (.bool false)), none, 16, [], true, []⟩, ⟨(some 4), .mov (.tmp 45), none, 16, [], true, []⟩]
def af_112 : AFun := ⟨46, [.inl 4], (.seq (.region [⟨(some 2), .box 1 (.tmp 0), none, 0, [], true, []⟩, ⟨(some 4), .mov (.const (.bool false)), none, 1, [], true, []⟩] 1)
 (.seq (.region rg_112_0 14)
 (.seq (.region [⟨(some 21), .mkFn 114 [] [(.tmp 2), (.tmp 5)], none, 0, [], true, []⟩, ⟨(some 6), .mov (.tmp 21), none, 0, [], true, []⟩] 0)
 (.seq (.region [⟨(some 22), .mkFn 115 [] [(.tmp 2)], none, 0, [], true, []⟩, ⟨(some 7), .mov (.tmp 22), none, 0, [], true, []⟩] 0)
 (.seq (.region rg_112_1 16)
 .ret)))))⟩
def lp_92_0 : ACode := (.seq (.seq (.region [⟨(some 9), .mov (.tmp 6), none, 0, [], true, []⟩, ⟨(some 10), .faddr 7 (.tmp 4), none, 0, [], true, []⟩, ⟨(some 11), .load none (.tmp 10), none, 0, [], true, []⟩, ⟨(some 12), .bin false .lss (.tmp 9) (.tmp 11), none, 0, [], true, []⟩] 0)
 (.cond (.tmp 12)
 .skip
 (.exit 0)))
 (.seq (.block 1 (.region [⟨(some 15), .mov (.tmp 0), none, 0, [], true, []⟩, ⟨(some 16), .mov (.tmp 6), none, 0, [], true, []⟩, ⟨(some 17), .iaddr 1 (.tmp 15) (.tmp 16), none, 0, [], true, []⟩, ⟨(some 18), .load none (.tmp 17), none, 0, [], true, []⟩, ⟨(some 19), .mov (.tmp 2), none, 0, [], true, []⟩, ⟨(some 20), .bin false .add (.tmp 18) (.tmp 19), none, 0, [], true, []⟩, ⟨(some 21), .iaddr 1 (.tmp 15) (.tmp 16), none, 0, [], true, []⟩, ⟨none, .store 1 (.tmp 21) (.tmp 20), none, 0, [], true, []⟩] 0))
 (.region [⟨(some 13), .mov (.tmp 6), none, 0, [], true, []⟩, ⟨(some 14), .bin false .add (.tmp 13) (.const (.int .i64 1)), none, 0, [], true, []⟩, ⟨(some 6), .mov (.tmp 14), none, 0, [], true, []⟩] 0)))
def af_92 : AFun := ⟨22, [], (.seq (.region [⟨(some 4), .box 8 (.tmp 1), none, 0, [], true, []⟩] 1)
 (.seq (.region [⟨(some 7), .load (some 8) (.tmp 4), none, 0, [], true, []⟩, ⟨(some 8), .call 65 [(.tmp 7)], none, 0, [], true, []⟩, ⟨(some 6), .mov (.tmp 8), none, 1, [], true, []⟩] 1)
 (.block 0 (.loop lp_92_0))))⟩
def af_83 : AFun := ⟨11, [.inr (2, (some 4))], (.seq (.region [⟨(some 2), .zero [(.val (.int .u8 0)), (.val (.int .i64 0)), (.val (.int .i64 0)), (.val (.int .i64 0))], none, 0, [], true, []⟩] 1)
 (.seq (.seq (.region [⟨(some 4), .mov (.tmp 0), none, 0, [], true, []⟩, ⟨(some 5), .call 104 [(.tmp 4), (.func 105)], none, 0, [], true, []⟩, ⟨(some 3), .mov (.tmp 5), none, 1, [], true, []⟩] 1)
 (.seq (.region [⟨(some 6), .mov (.tmp 3), none, 0, [], true, []⟩, ⟨(some 7), .bin false .geq (.tmp 6) (.const (.int .i64 0)), none, 0, [], true, []⟩] 0)
 (.cond (.tmp 7)
 (.seq (.region [⟨(some 8), .mov (.tmp 3), none, 0, [], true, []⟩, ⟨(some 9), .build [(.val (.int .u8 0)), (.val (.int .i64 0)), (.val (.int .i64 0)), (.val (.int .i64 0))] [(0, 1, (.const (.int .u8 1))), (1, 1, (.tmp 8))], none, 0, [], true, []⟩, ⟨none, .store 4 (.tmp 2) (.tmp 9), none, 0, [], true, []⟩] 0)
 .ret)
 .skip)))
 (.seq (.region [⟨(some 10), .build [(.val (.int .u8 0)), (.val (.int .i64 0)), (.val (.int .i64 0)), (.val (.int .i64 0))] [], none, 0, [], true, []⟩, ⟨none, .store 4 (.tmp 2) (.tmp 10), none, 0, [], true, []⟩] 0)
 .ret)))⟩
def lp_85_0 : ACode := (.seq (.region [⟨(some 22), .bin false .lss (.tmp 21) (.tmp 20), none, 0, [], true, []⟩] 0)
 (.seq (.cond (.tmp 22)
 .skip
 (.exit 2))
 (.seq (.block 3 (.seq (.region [⟨(some 23), .mov (.tmp 21), none, 0, [], true, []⟩, ⟨(some 9), .mov (.tmp 23), none, 0, [], true, []⟩] 0)
 (.seq (.region [⟨(some 24), .faddr 7 (.tmp 8), none, 0, [], true, []⟩, ⟨(some 25), .load none (.tmp 24), none, 0, [], true, []⟩, ⟨(some 26), .mov (.tmp 9), none, 0, [], true, []⟩, ⟨(some 27), .bin false .add (.tmp 25) (.tmp 26), none, 0, [], true, []⟩, ⟨(some 10), .mov (.tmp 27), none, 0, [], true, []⟩] 0)
 (.seq (.region [⟨(some 28), .mov (.tmp 2), none, 0, [], true, []⟩, ⟨(some 29), .load (some 8) (.tmp 8), none, 0, [], true, []⟩, ⟨(some 30), .mov (.tmp 10), none, 0, [], true, []⟩, ⟨(some 31), .callv (.tmp 28) [(.tmp 29), (.tmp 30)], none, 0, [], true, []⟩] 1)
 (.cond (.tmp 31)
 (.seq (.region [⟨(some 32), .mov (.tmp 1), none, 0, [], true, []⟩, ⟨(some 33), .mov (.tmp 7), none, 0, [], true, []⟩, ⟨(some 34), .mov (.tmp 10), none, 0, [], true, []⟩, ⟨(some 35), .build [(.val (.int .u8 0)), (.val (.int .i64 0)), (.val (.int .i64 0)), (.val (.int .i64 0))] [(0, 1, (.tmp 32)), (1, 1, (.tmp 33)), (3, 1, (.tmp 34))], none, 0, [], true, []⟩, ⟨none, .store 4 (.tmp 6) (.tmp 35), none, 0, [], true, []⟩] 0)
 .ret)
 .skip)))))
 (.region [⟨(some 36), .bin false .add (.tmp 21) (.const (.int .i64 1)), none, 0, [], true, []⟩, ⟨(some 21), .mov (.tmp 36), none, 0, [], true, []⟩] 0))))
def rs_85_1 : ACode := (.region [⟨(some 37), .bin false .add (.tmp 13) (.const (.int .i64 1)), none, 0, [], true, []⟩, ⟨(some 13), .mov (.tmp 37), none, 0, [], true, []⟩] 0)
def lp_85_2 : ACode := (.seq (.region [⟨(some 14), .bin false .lss (.tmp 13) (.tmp 12), none, 0, [], true, []⟩] 0)
 (.seq (.cond (.tmp 14)
 .skip
 (.exit 0))
 (.seq (.block 1 (.seq (.region [⟨(some 15), .mov (.tmp 13), none, 0, [], true, []⟩, ⟨(some 16), .iaddr 8 (.tmp 11) (.tmp 13), none, 0, [], true, []⟩, ⟨(some 17), .load (some 8) (.tmp 16), none, 0, [], true, []⟩, ⟨(some 8), .zero [(.val (.int .i64 0)), (.val (.int .i64 0)), (.val (.int .i64 0)), (.val (.int .i64 0)), (.val (.int .i64 0)), (.val (.int .i64 0)), (.val (.int .i64 0)), (.val (.int .i64 0))], none, 0, [], true, []⟩, ⟨(some 7), .mov (.tmp 15), none, 1, [], true, []⟩, ⟨none, .store 8 (.tmp 8) (.tmp 17), none, 1, [], true, []⟩] 1)
 (.seq (.region [⟨(some 18), .faddr 0 (.tmp 8), none, 0, [], true, []⟩, ⟨(some 19), .faddr 2 (.tmp 18), none, 0, [], true, []⟩, ⟨(some 20), .load none (.tmp 19), none, 0, [], true, []⟩, ⟨(some 21), .mov (.const (.int .i64 0)), none, 0, [], true, []⟩] 0)
 (.block 2 (.loop lp_85_0)))))
 rs_85_1)))
def rs_85_3 : ACode := (.seq (.region [⟨(some 38), .build [(.val (.int .u8 0)), (.val (.int .i64 0)), (.val (.int .i64 0)), (.val (.int .i64 0))] [], none, 0, [], true, []⟩, ⟨none, .store 4 (.tmp 6) (.tmp 38), none, 0, [], true, []⟩] 0)
 .ret)
def af_85 : AFun := ⟨39, [.inr (6, (some 4))], (.seq (.region [⟨(some 6), .zero [(.val (.int .u8 0)), (.val (.int .i64 0)), (.val (.int .i64 0)), (.val (.int .i64 0))], none, 0, [], true, []⟩] 1)
 (.seq (.seq (.region [⟨(some 11), .mov (.tmp 0), none, 0, [], true, []⟩, ⟨(some 12), .len false (.tmp 11), none, 0, [], true, []⟩, ⟨(some 13), .mov (.const (.int .i64 0)), none, 0, [], true, []⟩] 0)
 (.block 0 (.loop lp_85_2)))
 rs_85_3))⟩
def lp_88_0 : ACode := (.seq (.seq (.region [⟨(some 17), .mov (.tmp 7), none, 0, [], true, []⟩, ⟨(some 18), .mov (.tmp 1), none, 0, [], true, []⟩, ⟨(some 19), .len false (.tmp 18), none, 0, [], true, []⟩, ⟨(some 20), .bin false .lss (.tmp 17) (.tmp 19), none, 0, [], true, []⟩] 0)
 (.cond (.tmp 20)
 .skip
 (.exit 2)))
 (.seq (.block 3 (.seq (.region [⟨(some 23), .load (some 4) (.tmp 2), none, 0, [1, 2, 3], false, []⟩, ⟨(some 24), .load (some 8) (.tmp 6), none, 1, [0, 2, 3], false, []⟩, ⟨(some 25), .mov (.tmp 1), none, 2, [], true, []⟩, ⟨(some 26), .mov (.tmp 7), none, 2, [], true, []⟩, ⟨(some 27), .iaddr 8 (.tmp 25) (.tmp 26), none, 2, [0, 1], false, []⟩, ⟨(some 28), .load (some 8) (.tmp 27), none, 3, [0, 1], false, []⟩, ⟨(some 29), .call 106 [(.tmp 23), (.tmp 24), (.tmp 28)], none, 4, [], true, []⟩] 5)
 (.cond (.tmp 29)
 (.seq (.region [⟨(some 30), .mov (.tmp 5), none, 0, [], true, []⟩, ⟨(some 31), .mov (.tmp 7), none, 0, [], true, []⟩, ⟨(some 32), .build [(.val (.int .u8 0)), (.val (.int .i64 0)), (.val (.int .i64 0)), (.val (.int .i64 0))] [(0, 1, (.const (.int .u8 4))), (1, 1, (.tmp 30)), (2, 1, (.tmp 31))], none, 0, [], true, []⟩, ⟨none, .store 4 (.tmp 4) (.tmp 32), none, 0, [], true, []⟩] 0)
 .ret)
 .skip)))
 (.region [⟨(some 21), .mov (.tmp 7), none, 0, [], true, []⟩, ⟨(some 22), .bin false .add (.tmp 21) (.const (.int .i64 1)), none, 0, [], true, []⟩, ⟨(some 7), .mov (.tmp 22), none, 0, [], true, []⟩] 0)))
def rs_88_1 : ACode := (.region [⟨(some 33), .bin false .add (.tmp 10) (.const (.int .i64 1)), none, 0, [], true, []⟩, ⟨(some 10), .mov (.tmp 33), none, 0, [], true, []⟩] 0)
def lp_88_2 : ACode := (.seq (.region [⟨(some 11), .bin false .lss (.tmp 10) (.tmp 9), none, 0, [], true, []⟩] 0)
 (.seq (.cond (.tmp 11)
 .skip
 (.exit 0))
 (.seq (.block 1 (.seq (.region [⟨(some 12), .mov (.tmp 10), none, 0, [], true, []⟩, ⟨(some 13), .iaddr 8 (.tmp 8) (.tmp 10), none, 0, [], true, []⟩, ⟨(some 14), .load (some 8) (.tmp 13), none, 0, [], true, []⟩, ⟨(some 6), .zero [(.val (.int .i64 0)), (.val (.int .i64 0)), (.val (.int .i64 0)), (.val (.int .i64 0)), (.val (.int .i64 0)), (.val (.int .i64 0)), (.val (.int .i64 0)), (.val (.int .i64 0))], none, 0, [], true, []⟩, ⟨(some 5), .mov (.tmp 12), none, 1, [], true, []⟩, ⟨none, .store 8 (.tmp 6) (.tmp 14), none, 1, [], true, []⟩] 1)
 (.seq (.region [⟨(some 15), .mov (.tmp 5), none, 0, [], true, []⟩, ⟨(some 16), .bin false .add (.tmp 15) (.const (.int .i64 1)), none, 0, [], true, []⟩, ⟨(some 7), .mov (.tmp 16), none, 0, [], true, []⟩] 0)
 (.block 2 (.loop lp_88_0)))))
 rs_88_1)))
def rs_88_3 : ACode := (.seq (.region [⟨(some 34), .build [(.val (.int .u8 0)), (.val (.int .i64 0)), (.val (.int .i64 0)), (.val (.int .i64 0))] [], none, 0, [], true, []⟩, ⟨none, .store 4 (.tmp 4) (.tmp 34), none, 0, [], true, []⟩] 0)
 .ret)
def af_88 : AFun := ⟨35, [.inr (4, (some 4))], (.seq (.region [⟨(some 2), .box 4 (.tmp 0), none, 0, [], true, []⟩, ⟨(some 4), .zero [(.val (.int .u8 0)), (.val (.int .i64 0)), (.val (.int .i64 0)), (.val (.int .i64 0))], none, 1, [], true, []⟩] 2)
 (.seq (.seq (.region [⟨(some 8), .mov (.tmp 1), none, 0, [], true, []⟩, ⟨(some 9), .len false (.tmp 8), none, 0, [], true, []⟩, ⟨(some 10), .mov (.const (.int .i64 0)), none, 0, [], true, []⟩] 0)
 (.block 0 (.loop lp_88_2)))
 rs_88_3))⟩
def af_90 : AFun := ⟨18, [.inr (4, (some 4))], (.seq (.region [⟨(some 2), .box 4 (.tmp 0), none, 0, [], true, []⟩, ⟨(some 4), .zero [(.val (.int .u8 0)), (.val (.int .i64 0)), (.val (.int .i64 0)), (.val (.int .i64 0))], none, 1, [], true, []⟩] 2)
 (.seq (.region [⟨(some 7), .mkFn 107 [] [(.tmp 2)], none, 0, [], true, []⟩, ⟨(some 5), .mov (.tmp 7), none, 0, [], true, []⟩] 0)
 (.seq (.seq (.region [⟨(some 8), .load (some 4) (.tmp 2), none, 0, [], true, []⟩, ⟨(some 9), .mov (.tmp 1), none, 0, [], true, []⟩, ⟨(some 10), .call 61 [(.tmp 8), (.tmp 9)], none, 0, [], true, []⟩, ⟨(some 11), .mov (.tmp 5), none, 1, [], true, []⟩, ⟨(some 12), .call 66 [(.tmp 10), (.tmp 11)], none, 1, [], true, []⟩, ⟨(some 6), .mov (.tmp 12), none, 2, [], true, []⟩] 2)
 (.seq (.region [⟨(some 13), .mov (.tmp 6), none, 0, [], true, []⟩, ⟨(some 14), .bin false .geq (.tmp 13) (.const (.int .i64 0)), none, 0, [], true, []⟩] 0)
 (.cond (.tmp 14)
 (.seq (.region [⟨(some 15), .mov (.tmp 6), none, 0, [], true, []⟩, ⟨(some 16), .build [(.val (.int .u8 0)), (.val (.int .i64 0)), (.val (.int .i64 0)), (.val (.int .i64 0))] [(0, 1, (.const (.int .u8 5))), (3, 1, (.tmp 15))], none, 0, [], true, []⟩, ⟨none, .store 4 (.tmp 4) (.tmp 16), none, 0, [], true, []⟩] 0)
 .ret)
 .skip)))
 (.seq (.region [⟨(some 17), .build [(.val (.int .u8 0)), (.val (.int .i64 0)), (.val (.int .i64 0)), (.val (.int .i64 0))] [], none, 0, [], true, []⟩, ⟨none, .store 4 (.tmp 4) (.tmp 17), none, 0, [], true, []⟩] 0)
 .ret))))⟩
def af_48 : AFun := ⟨6, [.inl 2], (.seq (.region [⟨(some 2), .mov (.const (.bool false)), none, 0, [], true, []⟩] 0)
 (.seq (.region [⟨(some 3), .mov (.tmp 0), none, 0, [], true, []⟩, ⟨(some 4), .call 49 [(.const (.int .i64 0)), (.tmp 3), (.const (.int .i64 1000))], none, 0, [], true, []⟩, ⟨(some 5), .un .not (.tmp 4), none, 1, [], true, []⟩, ⟨(some 2), .mov (.tmp 5), none, 1, [], true, []⟩] 1)
 .ret))⟩
def af_50 : AFun := ⟨6, [.inl 2], (.seq (.region [⟨(some 2), .mov (.const (.bool false)), none, 0, [], true, []⟩] 0)
 (.seq (.region [⟨(some 3), .mov (.tmp 0), none, 0, [], true, []⟩, ⟨(some 4), .call 49 [(.const (.int .i64 0)), (.tmp 3), (.const (.int .i64 1000))], none, 0, [], true, []⟩, ⟨(some 5), .un .not (.tmp 4), none, 1, [], true, []⟩, ⟨(some 2), .mov (.tmp 5), none, 1, [], true, []⟩] 1)
 .ret))⟩
def af_52 : AFun := ⟨9, [.inl 4], (.seq (.region [⟨(some 4), .mov (.const (.bool false)), none, 0, [], true, []⟩] 0)
 (.seq (.region [⟨(some 5), .mov (.tmp 0), none, 0, [], true, []⟩, ⟨(some 6), .mov (.tmp 1), none, 0, [], true, []⟩, ⟨(some 7), .call 66 [(.tmp 5), (.tmp 6)], none, 0, [], true, []⟩, ⟨(some 8), .bin false .geq (.tmp 7) (.const (.int .i64 0)), none, 1, [], true, []⟩, ⟨(some 4), .mov (.tmp 8), none, 1, [], true, []⟩] 1)
 .ret))⟩
def rg_54_0 : List AOper := [⟨(some 5), .faddr 0 (.tmp 3), none, 0, [], true, []⟩, ⟨(some 6), .load none (.tmp 5), none, 0, [], true, []⟩, ⟨(some 7), .call 49 [(.const (.int .i64 0)), (.tmp 6), (.const (.int .i64 20))], none, 0, [], true, []⟩, ⟨(some 8), .mov (.tmp 7), none, 1, [], true, []⟩, ⟨(some 9), .faddr 1 (.tmp 3), (some ((some 8), true)), 1, [], true, []⟩, ⟨(some 10), .load none (.tmp 9), (some ((some 8), true)), 1, [], true, []⟩, ⟨(some 11), .call 49 [(.const (.int .i64 0)), (.tmp 10), (.const (.int .i64 24))], (some ((some 8), true)), 1, [], true, []⟩, ⟨(some 12), .pick (.tmp 8) (.tmp 11) (.const (.bool false)), none, 2, [], true, []⟩, ⟨(some 13), .mov (.tmp 12), none, 2, [], true, []⟩, ⟨(some 14), .faddr 2 (.tmp 3), (some ((some 13), true)), 2, [], true, []⟩, ⟨(some 15), .load none (.tmp 14), (some ((some 13), true)), 2, [], true, []⟩, ⟨(some 16), .call 49 [(.const (.int .i64 1)), (.tmp 15), (.const (.int .i64 24))], (some ((some 13), true)), 2, [], true, []⟩, ⟨(some 17), .pick (.tmp 13) (.tmp 16) (.const (.bool false)), none, 3, [], true, []⟩, ⟨(some 18), .mov (.tmp 17), none, 3, [], true, []⟩, ⟨(some 19), .faddr 3 (.tmp 3), (some ((some 18), true)), 3, [], true, []⟩, ⟨(some 20), .load none (.tmp 19), (some ((some 18), true)), 3, [], true, []⟩, ⟨(some 21), .call 49 [(.const (.int .i64 0)), (.tmp 20), (.const (.int .i64 1000))], (some ((some 18), true)), 3, [], true, []⟩, ⟨(some 22), .pick (.tmp 18) (.tmp 21) (.const (.bool false)), none, 4, [], true, []⟩, ⟨(some 23), .mov (.tmp 22), none, 4, [], true, []⟩, ⟨(some 24), .faddr 6 (.tmp 3), (some ((some 23), true)), 4, [], true, []⟩, ⟨(some 25), .load none (.tmp 24), (some ((some 23), true)), 4, [], true, []⟩, ⟨(some 26), .call 49 [(.const (.int .i64 0)), (.tmp 25), (.const (.int .i64 100))], (some ((some 23), true)), 4, [], true, []⟩, ⟨(some 27), .pick (.tmp 23) (.tmp 26) (.const (.bool false)), none, 5, [], true, []⟩, ⟨(some 28), .mov (.tmp 27), none, 5, [], true, []⟩, ⟨(some 29), .faddr 4 (.tmp 3), (some ((some 28), true)), 5, [], true, []⟩, ⟨(some 30), .load none (.tmp 29), (some ((some 28), true)), 5, [], true, []⟩, ⟨(some 31), .faddr 5 (.tmp 3), (some ((some 28), true)), 5, [], true, []⟩, ⟨(some 32), .load none (.tmp 31), (some ((some 28), true)), 5, [], true, []⟩, ⟨(some 33), .call 49 [(.const (.int .i64 0)), (.tmp 30), (.tmp 32)], (some ((some 28), true)), 5, [], true, []⟩, ⟨(some 34), .pick (.tmp 28) (.tmp 33) (.const (.bool false)), none, 6, [], true, []⟩, ⟨(some 35), .mov (.tmp 34), none, 6, [], true, []⟩, ⟨(some 36), .faddr 5 (.tmp 3), (some ((some 35), true)), 6, [], true, []⟩, ⟨(some 37), .load none (.tmp 36), (some ((some 35), true)), 6, [], true, []⟩, ⟨(some 38), .faddr 2 (.tmp 2), (some ((some 35), true)), 6, [], true, []⟩, ⟨(some 39), .load none (.tmp 38), (some ((some 35), true)), 6, [], true, []⟩, ⟨(some 40), .len false (.tmp 39), (some ((some 35), true)), 6, [], true, []⟩, ⟨(some 41), .bin false .leq (.tmp 37) (.tmp 40), (some ((some 35), true)), 6, [], true, []⟩, ⟨(some 42), .pick (.tmp 35) (.tmp 41) (.const (.bool false)), none, 6, [], true, []⟩, ⟨(some 4), .mov (.tmp 42), none, 6, [], true, []⟩]
def af_54 : AFun := ⟨43, [.inl 4], (.seq (.region [⟨(some 2), .box 4 (.tmp 0), none, 0, [], true, []⟩, ⟨(some 3), .box 7 (.tmp 1), none, 1, [], true, []⟩, ⟨(some 4), .mov (.const (.bool false)), none, 2, [], true, []⟩] 2)
 (.seq (.region rg_54_0 6)
 .ret))⟩
def lp_79_0 : ACode := (.seq (.region [⟨(some 9), .bin false .lss (.tmp 8) (.tmp 7), none, 0, [], true, []⟩] 0)
 (.seq (.cond (.tmp 9)
 .skip
 (.exit 0))
 (.seq (.block 1 (.seq (.region [⟨(some 10), .mov (.tmp 8), none, 0, [], true, []⟩, ⟨(some 5), .mov (.tmp 10), none, 0, [], true, []⟩] 0)
 (.seq (.region [⟨(some 11), .mov (.tmp 1), none, 0, [], true, []⟩, ⟨(some 12), .mov (.tmp 0), none, 0, [], true, []⟩, ⟨(some 13), .mov (.tmp 5), none, 0, [], true, []⟩, ⟨(some 14), .iaddr 7 (.tmp 12) (.tmp 13), none, 0, [], true, []⟩, ⟨(some 15), .load (some 7) (.tmp 14), none, 0, [], true, []⟩, ⟨(some 16), .callv (.tmp 11) [(.tmp 15)], none, 0, [], true, []⟩] 1)
 (.cond (.tmp 16)
 (.seq (.region [⟨(some 17), .mov (.tmp 5), none, 0, [], true, []⟩, ⟨(some 4), .mov (.tmp 17), none, 0, [], true, []⟩] 0)
 .ret)
 .skip))))
 (.region [⟨(some 18), .bin false .add (.tmp 8) (.const (.int .i64 1)), none, 0, [], true, []⟩, ⟨(some 8), .mov (.tmp 18), none, 0, [], true, []⟩] 0))))
def rs_79_1 : ACode := (.seq (.region [⟨(some 4), .mov (.const (.int .i64 (-1))), none, 0, [], true, []⟩] 0)
 .ret)
def af_79 : AFun := ⟨19, [.inl 4], (.seq (.region [⟨(some 4), .mov (.const (.int .i64 0)), none, 0, [], true, []⟩] 0)
 (.seq (.seq (.region [⟨(some 6), .mov (.tmp 0), none, 0, [], true, []⟩, ⟨(some 7), .len false (.tmp 6), none, 0, [], true, []⟩, ⟨(some 8), .mov (.const (.int .i64 0)), none, 0, [], true, []⟩] 0)
 (.block 0 (.loop lp_79_0)))
 rs_79_1))⟩
def lp_66_0 : ACode := (.seq (.region [⟨(some 9), .bin false .lss (.tmp 8) (.tmp 7), none, 0, [], true, []⟩] 0)
 (.seq (.cond (.tmp 9)
 .skip
 (.exit 0))
 (.seq (.block 1 (.seq (.region [⟨(some 10), .mov (.tmp 8), none, 0, [], true, []⟩, ⟨(some 5), .mov (.tmp 10), none, 0, [], true, []⟩] 0)
 (.seq (.region [⟨(some 11), .mov (.tmp 1), none, 0, [], true, []⟩, ⟨(some 12), .mov (.tmp 0), none, 0, [], true, []⟩, ⟨(some 13), .mov (.tmp 5), none, 0, [], true, []⟩, ⟨(some 14), .iaddr 1 (.tmp 12) (.tmp 13), none, 0, [], true, []⟩, ⟨(some 15), .load none (.tmp 14), none, 0, [], true, []⟩, ⟨(some 16), .callv (.tmp 11) [(.tmp 15)], none, 0, [], true, []⟩] 1)
 (.cond (.tmp 16)
 (.seq (.region [⟨(some 17), .mov (.tmp 5), none, 0, [], true, []⟩, ⟨(some 4), .mov (.tmp 17), none, 0, [], true, []⟩] 0)
 .ret)
 .skip))))
 (.region [⟨(some 18), .bin false .add (.tmp 8) (.const (.int .i64 1)), none, 0, [], true, []⟩, ⟨(some 8), .mov (.tmp 18), none, 0, [], true, []⟩] 0))))
def rs_66_1 : ACode := (.seq (.region [⟨(some 4), .mov (.const (.int .i64 (-1))), none, 0, [], true, []⟩] 0)
 .ret)
def af_66 : AFun := ⟨19, [.inl 4], (.seq (.region [⟨(some 4), .mov (.const (.int .i64 0)), none, 0, [], true, []⟩] 0)
 (.seq (.seq (.region [⟨(some 6), .mov (.tmp 0), none, 0, [], true, []⟩, ⟨(some 7), .len false (.tmp 6), none, 0, [], true, []⟩, ⟨(some 8), .mov (.const (.int .i64 0)), none, 0, [], true, []⟩] 0)
 (.block 0 (.loop lp_66_0)))
 rs_66_1))⟩
def rg_114_0 : List AOper := [⟨(some 5), .load none (.tmp 1), none, 0, [4, 5, 6, 7, 8, 9, 10], false, []⟩, ⟨(some 6), .nilCheck (.tmp 5), none, 1, [4, 5, 6, 7, 8, 9, 10], false, []⟩, ⟨(some 7), .faddr 0 (.tmp 6), none, 2, [4, 5, 6, 7, 8, 9, 10], false, []⟩, ⟨(some 8), .load (some 4) (.tmp 7), none, 3, [4, 5, 6, 7, 8, 9, 10], false, []⟩, ⟨(some 9), .load (some 8) (.tmp 2), none, 4, [0, 1, 2, 3, 5, 6, 7, 8, 9, 10], false, []⟩, ⟨(some 10), .load none (.tmp 1), none, 5, [0, 1, 2, 3, 4], false, []⟩, ⟨(some 11), .nilCheck (.tmp 10), none, 6, [0, 1, 2, 3, 4], false, []⟩, ⟨(some 12), .faddr 4 (.tmp 11), none, 7, [0, 1, 2, 3, 4], false, []⟩, ⟨(some 13), .load none (.tmp 12), none, 8, [0, 1, 2, 3, 4], false, []⟩, ⟨(some 14), .mov (.tmp 0), none, 9, [], true, []⟩, ⟨(some 15), .iaddr 8 (.tmp 13) (.tmp 14), none, 9, [0, 1, 2, 3, 4], false, []⟩, ⟨(some 16), .load (some 8) (.tmp 15), none, 10, [0, 1, 2, 3, 4], false, []⟩, ⟨(some 17), .call 106 [(.tmp 8), (.tmp 9), (.tmp 16)], none, 11, [], true, []⟩, ⟨(some 4), .mov (.tmp 17), none, 12, [], true, []⟩]
def af_114 : AFun := ⟨18, [.inl 4], (.seq (.region [⟨(some 4), .mov (.const (.bool false)), none, 0, [], true, []⟩] 0)
 (.seq (.region rg_114_0 12)
 .ret))⟩
def af_115 : AFun := ⟨11, [.inl 3], (.seq (.region [⟨(some 3), .mov (.const (.bool false)), none, 0, [], true, []⟩] 0)
 (.seq (.region [⟨(some 4), .mov (.tmp 0), none, 0, [], true, []⟩, ⟨(some 5), .load none (.tmp 1), none, 0, [], true, []⟩, ⟨(some 6), .nilCheck (.tmp 5), none, 0, [], true, []⟩, ⟨(some 7), .faddr 0 (.tmp 6), none, 0, [], true, []⟩, ⟨(some 8), .faddr 0 (.tmp 7), none, 0, [], true, []⟩, ⟨(some 9), .load none (.tmp 8), none, 0, [], true, []⟩, ⟨(some 10), .bin false .geq (.tmp 4) (.tmp 9), none, 0, [], true, []⟩, ⟨(some 3), .mov (.tmp 10), none, 0, [], true, []⟩] 0)
 .ret))⟩
def rg_105_0 : List AOper := [⟨(some 3), .faddr 7 (.tmp 1), none, 0, [], true, []⟩, ⟨(some 4), .load none (.tmp 3), none, 0, [], true, []⟩, ⟨(some 5), .faddr 0 (.tmp 1), none, 0, [], true, []⟩, ⟨(some 6), .faddr 4 (.tmp 5), none, 0, [], true, []⟩, ⟨(some 7), .load none (.tmp 6), none, 0, [], true, []⟩, ⟨(some 8), .faddr 0 (.tmp 1), none, 0, [], true, []⟩, ⟨(some 9), .faddr 1 (.tmp 8), none, 0, [], true, []⟩, ⟨(some 10), .load none (.tmp 9), none, 0, [], true, []⟩, ⟨(some 11), .bin false .add (.tmp 7) (.tmp 10), none, 0, [], true, []⟩, ⟨(some 12), .bin false .lss (.tmp 4) (.tmp 11), none, 0, [], true, []⟩, ⟨(some 13), .mov (.tmp 12), none, 0, [], true, []⟩, ⟨(some 14), .faddr 7 (.tmp 1), (some ((some 13), false)), 0, [], true, []⟩, ⟨(some 15), .load none (.tmp 14), (some ((some 13), false)), 0, [], true, []⟩, ⟨(some 16), .faddr 0 (.tmp 1), (some ((some 13), false)), 0, [], true, []⟩, ⟨(some 17), .faddr 5 (.tmp 16), (some ((some 13), false)), 0, [], true, []⟩, ⟨(some 18), .load none (.tmp 17), (some ((some 13), false)), 0, [], true, []⟩, ⟨(some 19), .faddr 0 (.tmp 1), (some ((some 13), false)), 0, [], true, []⟩, ⟨(some 20), .faddr 2 (.tmp 19), (some ((some 13), false)), 0, [], true, []⟩, ⟨(some 21), .load none (.tmp 20), (some ((some 13), false)), 0, [], true, []⟩, ⟨(some 22), .bin false .sub (.tmp 18) (.tmp 21), (some ((some 13), false)), 0, [], true, []⟩, ⟨(some 23), .bin false .gtr (.tmp 15) (.tmp 22), (some ((some 13), false)), 0, [], true, []⟩, ⟨(some 24), .pick (.tmp 13) (.const (.bool true)) (.tmp 23), none, 0, [], true, []⟩, ⟨(some 2), .mov (.tmp 24), none, 0, [], true, []⟩]
def af_105 : AFun := ⟨25, [.inl 2], (.seq (.region [⟨(some 1), .box 8 (.tmp 0), none, 0, [], true, []⟩, ⟨(some 2), .mov (.const (.bool false)), none, 1, [], true, []⟩] 1)
 (.seq (.region rg_105_0 0)
 .ret))⟩
def rg_106_0 : List AOper := [⟨(some 17), .faddr 7 (.tmp 4), none, 0, [2, 3], false, []⟩, ⟨(some 18), .load none (.tmp 17), none, 1, [2, 3], false, []⟩, ⟨(some 19), .load (some 8) (.tmp 5), none, 2, [0, 1], false, []⟩, ⟨(some 20), .call 99 [(.tmp 19)], none, 3, [0, 1], false, []⟩, ⟨(some 21), .mov (.tmp 7), none, 4, [], true, []⟩, ⟨(some 22), .bin false .add (.tmp 20) (.tmp 21), none, 4, [], true, []⟩, ⟨(some 23), .bin false .lss (.tmp 18) (.tmp 22), none, 4, [], true, []⟩, ⟨(some 24), .mov (.tmp 23), none, 4, [], true, []⟩, ⟨(some 25), .faddr 7 (.tmp 5), (some ((some 24), true)), 4, [6, 7], false, []⟩, ⟨(some 26), .load none (.tmp 25), (some ((some 24), true)), 5, [6, 7], false, []⟩, ⟨(some 27), .load (some 8) (.tmp 4), (some ((some 24), true)), 6, [4, 5], false, []⟩, ⟨(some 28), .call 99 [(.tmp 27)], (some ((some 24), true)), 7, [4, 5], false, []⟩, ⟨(some 29), .mov (.tmp 7), (some ((some 24), true)), 8, [], true, []⟩, ⟨(some 30), .bin false .add (.tmp 28) (.tmp 29), (some ((some 24), true)), 8, [], true, []⟩, ⟨(some 31), .bin false .lss (.tmp 26) (.tmp 30), (some ((some 24), true)), 8, [], true, []⟩, ⟨(some 32), .pick (.tmp 24) (.tmp 31) (.const (.bool false)), none, 8, [], true, []⟩, ⟨(some 6), .mov (.tmp 32), none, 8, [], true, []⟩]
def af_106 : AFun := ⟨33, [.inl 6], (.seq (.region [⟨(some 3), .box 4 (.tmp 0), none, 0, [], true, []⟩, ⟨(some 4), .box 8 (.tmp 1), none, 1, [], true, []⟩, ⟨(some 5), .box 8 (.tmp 2), none, 2, [], true, []⟩, ⟨(some 6), .mov (.const (.bool false)), none, 3, [], true, []⟩] 3)
 (.seq (.region [⟨(some 7), .mov (.const (.int .i64 0)), none, 0, [], true, []⟩] 0)
 (.seq (.seq (.region [⟨(some 8), .faddr 0 (.tmp 4), none, 0, [], true, []⟩, ⟨(some 9), .faddr 0 (.tmp 8), none, 0, [], true, []⟩, ⟨(some 10), .load none (.tmp 9), none, 0, [], true, []⟩, ⟨(some 11), .faddr 0 (.tmp 5), none, 0, [], true, []⟩, ⟨(some 12), .faddr 0 (.tmp 11), none, 0, [], true, []⟩, ⟨(some 13), .load none (.tmp 12), none, 0, [], true, []⟩, ⟨(some 14), .bin false .neq (.tmp 10) (.tmp 13), none, 0, [], true, []⟩] 0)
 (.cond (.tmp 14)
 (.region [⟨(some 15), .faddr 1 (.tmp 3), none, 0, [], true, []⟩, ⟨(some 16), .load none (.tmp 15), none, 0, [], true, []⟩, ⟨(some 7), .mov (.tmp 16), none, 0, [], true, []⟩] 0)
 .skip))
 (.seq (.region rg_106_0 8)
 .ret))))⟩
def af_107 : AFun := ⟨8, [.inl 3], (.seq (.region [⟨(some 3), .mov (.const (.bool false)), none, 0, [], true, []⟩] 0)
 (.seq (.region [⟨(some 4), .mov (.tmp 0), none, 0, [], true, []⟩, ⟨(some 5), .faddr 0 (.tmp 1), none, 0, [], true, []⟩, ⟨(some 6), .load none (.tmp 5), none, 0, [], true, []⟩, ⟨(some 7), .bin false .gtr (.tmp 4) (.tmp 6), none, 0, [], true, []⟩, ⟨(some 3), .mov (.tmp 7), none, 0, [], true, []⟩] 0)
 .ret))⟩
/-- functions by their numbers -/
inductive FT where
  | leaf
  | node (l : FT) (k : Nat) (af : AFun) (r : FT)
def FT.find : FT → Nat → Option AFun
  | .leaf, _ => none
  | .node l k af r, f => bif Nat.beq f k then some af else bif Nat.ble f k then l.find f else r.find f
def FT.Good (P : Program) : FT → Prop
  | .leaf => True
  | .node l k af r => l.Good P ∧ compF P k = some af ∧ r.Good P
theorem FT.found {P : Program} : ∀ (t : FT), t.Good P → ∀ f fn, t.find f = some fn → compF P f = some fn
  | .leaf, _, f, fn, h => by cases h
  | .node l k af r, hg, f, fn, h => by
    simp only [FT.find] at h
    cases h1 : Nat.beq f k with
    | true =>
      rw [h1] at h
      obtain rfl := Nat.eq_of_beq_eq_true h1
      cases h
      exact hg.2.1
    | false =>
      rw [h1] at h
      cases h2 : Nat.ble f k with
      | true => rw [h2] at h; exact FT.found l hg.1 f fn h
      | false => rw [h2] at h; exact FT.found r hg.2.2 f fn h
def tree : FT := (.node (.node (.node (.node (.node (.node (.node .leaf 7 af_7 .leaf) 12 af_12 .leaf) 13 af_13 (.node .leaf 14 af_14 .leaf)) 15 af_15 (.node (.node (.node .leaf 16 af_16 .leaf) 17 af_17 .leaf) 18 af_18 (.node .leaf 19 af_19 .leaf))) 20 af_20 (.node (.node (.node (.node .leaf 21 af_21 .leaf) 25 af_25 .leaf) 26 af_26 (.node .leaf 27 af_27 .leaf)) 31 af_31 (.node (.node .leaf 33 af_33 .leaf) 42 af_42 (.node .leaf 43 af_43 .leaf)))) 47 af_47 (.node (.node (.node (.node (.node .leaf 48 af_48 .leaf) 49 af_49 .leaf) 50 af_50 (.node .leaf 51 af_51 .leaf)) 52 af_52 (.node (.node (.node .leaf 53 af_53 .leaf) 54 af_54 .leaf) 55 af_55 (.node .leaf 56 af_56 .leaf))) 57 af_57 (.node (.node (.node (.node .leaf 58 af_58 .leaf) 59 af_59 .leaf) 60 af_60 (.node .leaf 61 af_61 .leaf)) 65 af_65 (.node (.node .leaf 66 af_66 .leaf) 68 af_68 (.node .leaf 69 af_69 .leaf))))) 70 af_70 (.node (.node (.node (.node (.node (.node .leaf 71 af_71 .leaf) 72 af_72 .leaf) 73 af_73 (.node .leaf 74 af_74 .leaf)) 78 af_78 (.node (.node (.node .leaf 79 af_79 .leaf) 80 af_80 .leaf) 81 af_81 (.node .leaf 82 af_82 .leaf))) 83 af_83 (.node (.node (.node (.node .leaf 84 af_84 .leaf) 85 af_85 .leaf) 86 af_86 (.node .leaf 87 af_87 .leaf)) 88 af_88 (.node (.node .leaf 89 af_89 .leaf) 90 af_90 (.node .leaf 91 af_91 .leaf)))) 92 af_92 (.node (.node (.node (.node (.node .leaf 95 af_95 .leaf) 96 af_96 .leaf) 97 af_97 (.node .leaf 98 af_98 .leaf)) 99 af_99 (.node (.node (.node .leaf 100 af_100 .leaf) 101 af_101 .leaf) 102 af_102 (.node .leaf 103 af_103 .leaf))) 104 af_104 (.node (.node (.node (.node .leaf 105 af_105 .leaf) 106 af_106 .leaf) 107 af_107 (.node .leaf 110 af_110 .leaf)) 111 af_111 (.node (.node .leaf 112 af_112 .leaf) 114 af_114 (.node .leaf 115 af_115 .leaf))))))
end Go.Ev
