import Derived.Test.YtmekepomgofiaaaF09
set_option linter.all false
namespace Go.Ev
set_option linter.all false
def oP (d : Nat) (op : AOp) (r : Nat) : AOper := ⟨some d, op, none, r, [], true, []⟩
def oG (d : Nat) (op : AOp) (g : Nat) (b : Bool) (r : Nat) : AOper := ⟨some d, op, some (some g, b), r, [], true, []⟩
abbrev o_ (i : Nat) : Operand := .tmp i
abbrev oc (i : Int) : Operand := .const (.int .i64 i)
def rg_5_0 : List AOper := [(oP 12 (.load (some 4) (o_ 3)) 0), (oP 13 (.mov (o_ 1)) 0), (oP 14 (.call 12 [(o_ 12), (o_ 13)]) 0), (oP 15 (.mov (o_ 14)) 1), (oG 16 (.faddr 0 (o_ 5)) 15 false 1), (oG 17 (.load none (o_ 16)) 15 false 1), (oG 18 (.len false (o_ 17)) 15 false 1), (oG 19 (.bin false .gtr (o_ 18) (oc 20)) 15 false 1), (oP 20 (.pick (o_ 15) (.const (.bool true)) (o_ 19)) 1)]
def rg_5_1 : List AOper := [⟨(some 23), .load (some 4) (o_ 3), none, 0, [3, 4, 6, 7], false, []⟩, ⟨(some 24), .call 14 [(o_ 23)], none, 1, [3, 4, 6, 7], false, []⟩, (oP 25 (.mov (o_ 1)) 2), ⟨(some 26), .call 15 [(o_ 25)], none, 2, [3, 4, 6, 7], false, []⟩, ⟨(some 27), .faddr 0 (o_ 5), none, 3, [0, 1, 2, 6, 7], false, []⟩, ⟨(some 28), .load none (o_ 27), none, 4, [0, 1, 2, 6, 7], false, []⟩, ⟨(some 29), .call 16 [(o_ 28)], none, 5, [6, 7], false, []⟩, ⟨(some 30), .faddr 1 (o_ 5), none, 6, [0, 1, 2, 3, 4, 5], false, []⟩, ⟨(some 31), .load (some 7) (o_ 30), none, 7, [0, 1, 2, 3, 4, 5], false, []⟩, (oP 32 (.call 40 [(o_ 24), (o_ 26), (o_ 29), (o_ 31)]) 8), (oP 22 (.mov (o_ 32)) 9), (oP 33 (.extract (o_ 22) 0) 9), (oP 34 (.extract (o_ 22) 1) 9), (oP 7 (.mov (o_ 33)) 9), (oP 8 (.mov (o_ 34)) 9)]
def rg_5_2 : List AOper := [(oP 42 (.mov (o_ 8)) 0), (oP 43 (.mov (o_ 9)) 0), (oP 44 (.bin false .eql (o_ 42) (o_ 43)) 0), (oP 45 (.mov (o_ 44)) 0), (oG 46 (.mov (o_ 7)) 45 true 0), (oG 47 (.bin false .eql (o_ 46) (oc 0)) 45 true 0), (oP 48 (.pick (o_ 45) (o_ 47) (.const (.bool false))) 0), (oP 49 (.mov (o_ 48)) 0), (oG 50 (.call 13 []) 49 true 0), (oP 51 (.pick (o_ 49) (o_ 50) (.const (.bool false))) 1), (oP 6 (.mov (o_ 51)) 1)]
def rg_5_3 : List AOper := [(oP 62 (.mov (o_ 8)) 0), (oP 63 (.bin false .eql (o_ 62) (oc 2)) 0), (oP 64 (.mov (o_ 63)) 0), (oG 65 (.mov (o_ 7)) 64 true 0), (oG 66 (.bin false .eql (o_ 65) (oc 0)) 64 true 0), (oP 67 (.pick (o_ 64) (o_ 66) (.const (.bool false))) 0), (oP 68 (.mov (o_ 67)) 0), (oG 69 (.call 13 []) 68 true 0), (oP 70 (.pick (o_ 68) (o_ 69) (.const (.bool false))) 1), (oP 6 (.mov (o_ 70)) 1)]
def rg_5_4 : List AOper := [⟨(some 78), .load (some 4) (o_ 3), none, 0, [1, 2, 3, 4, 5, 3], false, []⟩, (oP 79 (.mov (o_ 10)) 1), ⟨(some 80), .faddr 0 (o_ 5), none, 1, [0, 4], false, []⟩, ⟨(some 81), .load none (o_ 80), none, 2, [0, 4], false, []⟩, ⟨(some 82), .call 16 [(o_ 81)], none, 3, [0, 4], false, []⟩, (oP 83 (.mov (o_ 11)) 4), ⟨(some 84), .bslice 1 1 [(.val (.int .i64 0))] [(0, (o_ 83))], none, 4, [0, 1, 2, 3], false, []⟩, ⟨(some 85), .append 1 (o_ 82) (o_ 84), none, 5, [0], false, [3]⟩, (oP 86 (.call 27 [(o_ 78), (o_ 79), (o_ 85)]) 6), (oP 87 (.field none 0 (o_ 86)) 7), (oP 88 (.bin false .eql (o_ 87) (.const (.int .u8 0))) 7)]
def rg_5_5 : List AOper := [(oP 89 (.mov (o_ 8)) 0), (oP 90 (.bin false .eql (o_ 89) (oc 0)) 0), (oP 91 (.mov (o_ 90)) 0), (oG 92 (.mov (o_ 7)) 91 true 0), (oG 93 (.mov (o_ 11)) 91 true 0), (oG 94 (.bin false .eql (o_ 92) (o_ 93)) 91 true 0), (oP 95 (.pick (o_ 91) (o_ 94) (.const (.bool false))) 0), (oP 96 (.mov (o_ 95)) 0), (oG 97 (.call 13 []) 96 true 0), (oP 98 (.pick (o_ 96) (o_ 97) (.const (.bool false))) 1), (oP 6 (.mov (o_ 98)) 1)]
def lp_5_6 : ACode := (.seq (.seq (.region [(oP 71 (.mov (o_ 11)) 0), (oP 72 (.faddr 2 (o_ 3)) 0), (oP 73 (.load none (o_ 72)) 0), (oP 74 (.len false (o_ 73)) 0), (oP 75 (.bin false .lss (o_ 71) (o_ 74)) 0)] 0)
 (.cond (o_ 75)
 .skip
 (.exit 0)))
 (.seq (.block 1 (.seq (.region rg_5_4 7)
 (.cond (o_ 88)
 (.seq (.region rg_5_5 1)
 .ret)
 .skip)))
 (.region [(oP 76 (.mov (o_ 11)) 0), (oP 77 (.bin false .add (o_ 76) (oc 1)) 0), (oP 11 (.mov (o_ 77)) 0)] 0)))
def rg_5_7 : List AOper := [(oP 99 (.mov (o_ 8)) 0), (oP 100 (.bin false .eql (o_ 99) (oc 102)) 0), (oP 101 (.mov (o_ 100)) 0), (oG 102 (.mov (o_ 7)) 101 true 0), (oG 103 (.bin false .eql (o_ 102) (oc 0)) 101 true 0), (oP 104 (.pick (o_ 101) (o_ 103) (.const (.bool false))) 0), (oP 105 (.mov (o_ 104)) 0), (oG 106 (.call 13 []) 105 true 0), (oP 107 (.pick (o_ 105) (o_ 106) (.const (.bool false))) 1), (oP 6 (.mov (o_ 107)) 1)]
def rs_5_8 : ACode := (.seq (.region rg_5_7 1)
 .ret)
def af_5 : AFun := ⟨108, [.inl 6], (.seq (.region [(oP 3 (.box 4 (o_ 0)) 0), (oP 5 (.box 8 (o_ 2)) 1), (oP 6 (.mov (.const (.bool false))) 2)] 2)
 (.seq (.seq (.region rg_5_0 1)
 (.cond (o_ 20)
 (.seq (.region [(oP 21 (.call 13 []) 0), (oP 6 (.mov (o_ 21)) 1)] 1)
 .ret)
 .skip))
 (.seq (.region rg_5_1 9)
 (.seq (.seq (.region [(oP 35 (.load (some 4) (o_ 3)) 0), (oP 36 (.mov (o_ 1)) 0), (oP 37 (.faddr 0 (o_ 5)) 0), (oP 38 (.load none (o_ 37)) 0), (oP 39 (.call 26 [(o_ 35), (o_ 36), (o_ 38)]) 0), (oP 9 (.mov (o_ 39)) 1)] 1)
 (.seq (.region [(oP 40 (.mov (o_ 9)) 0), (oP 41 (.bin false .neq (o_ 40) (oc 0)) 0)] 0)
 (.cond (o_ 41)
 (.seq (.region rg_5_2 1)
 .ret)
 .skip)))
 (.seq (.region [(oP 52 (.mov (o_ 1)) 0), ⟨(some 53), .call 15 [(o_ 52)], none, 0, [1, 2, 3], false, []⟩, ⟨(some 54), .faddr 1 (o_ 5), none, 1, [0], false, []⟩, ⟨(some 55), .load (some 7) (o_ 54), none, 2, [0], false, []⟩, ⟨(some 56), .bslice 7 1 [(.val (.int .i64 0)), (.val (.int .i64 0)), (.val (.int .i64 0)), (.val (.int .i64 0)), (.val (.int .i64 0)), (.val (.int .i64 0)), (.val (.int .i64 0))] [(0, (o_ 55))], none, 3, [0], false, []⟩, (oP 57 (.append 7 (o_ 53) (o_ 56)) 4), (oP 10 (.mov (o_ 57)) 5)] 5)
 (.seq (.seq (.region [(oP 58 (.load (some 4) (o_ 3)) 0), (oP 59 (.mov (o_ 10)) 0), (oP 60 (.call 20 [(o_ 58), (o_ 59)]) 0), (oP 61 (.un .not (o_ 60)) 1)] 1)
 (.cond (o_ 61)
 (.seq (.region rg_5_3 1)
 .ret)
 .skip))
 (.seq (.seq (.region [(oP 11 (.mov (oc 0)) 0)] 0)
 (.block 0 (.loop lp_5_6)))
 rs_5_8)))))))⟩
def rg_12_0 : List AOper := [(oP 5 (.faddr 2 (o_ 2)) 0), (oP 6 (.load none (o_ 5)) 0), (oP 7 (.len false (o_ 6)) 0), (oP 8 (.bin false .gtr (o_ 7) (oc 30)) 0), (oP 9 (.mov (o_ 8)) 0), (oG 10 (.faddr 2 (o_ 2)) 9 true 0), (oG 11 (.load none (o_ 10)) 9 true 0), (oG 12 (.len false (o_ 11)) 9 true 0), (oG 13 (.bin false .leq (o_ 12) (oc 96)) 9 true 0), (oP 14 (.pick (o_ 9) (o_ 13) (.const (.bool false))) 0), (oP 15 (.mov (o_ 14)) 0), (oG 16 (.faddr 2 (o_ 2)) 15 false 0), (oG 17 (.load none (o_ 16)) 15 false 0), (oG 18 (.len false (o_ 17)) 15 false 0), (oG 19 (.bin false .gtr (o_ 18) (oc 110)) 15 false 0), (oP 20 (.pick (o_ 15) (.const (.bool true)) (o_ 19)) 0), (oP 21 (.mov (o_ 20)) 0), (oG 22 (.faddr 3 (o_ 2)) 21 false 0), (oG 23 (.load none (o_ 22)) 21 false 0), (oG 24 (.len false (o_ 23)) 21 false 0), (oG 25 (.bin false .gtr (o_ 24) (oc 110)) 21 false 0), (oP 26 (.pick (o_ 21) (.const (.bool true)) (o_ 25)) 0), (oP 27 (.mov (o_ 26)) 0), (oG 28 (.mov (o_ 1)) 27 false 0), (oG 29 (.len false (o_ 28)) 27 false 0), (oG 30 (.bin false .gtr (o_ 29) (oc 18)) 27 false 0), (oP 31 (.pick (o_ 27) (.const (.bool true)) (o_ 30)) 0), (oP 4 (.mov (o_ 31)) 0)]
def af_12 : AFun := ⟨32, [.inl 4], (.seq (.region [(oP 2 (.box 4 (o_ 0)) 0), (oP 4 (.mov (.const (.bool false))) 1)] 1)
 (.seq (.region rg_12_0 0)
 .ret))⟩
def rg_13_0 : List AOper := [(oP 16 (.load (some 4) (o_ 1)) 0), (oP 17 (.mov (o_ 2)) 0), (oP 18 (.call 33 [(o_ 16), (o_ 17)]) 0), (oP 15 (.mov (o_ 18)) 1), (oP 19 (.extract (o_ 15) 0) 1), (oP 20 (.extract (o_ 15) 1) 1), (oP 21 (.extract (o_ 15) 2) 1), (oP 3 (.mov (o_ 19)) 1), (oP 4 (.mov (o_ 20)) 1), (oP 5 (.mov (o_ 21)) 1)]
def rg_13_1 : List AOper := [(oP 23 (.load (some 4) (o_ 1)) 0), (oP 24 (.mov (o_ 2)) 0), (oP 25 (.bslice 1 2 [(.val (.int .i64 0))] [(0, (oc 1)), (1, (oc 3))]) 0), (oP 26 (.call 21 [(o_ 23), (o_ 24), (o_ 25)]) 1), (oP 22 (.mov (o_ 26)) 2), (oP 27 (.extract (o_ 22) 0) 2), (oP 28 (.extract (o_ 22) 1) 2), (oP 6 (.zero [(.val (.int .u8 0)), (.val (.int .i64 0)), (.val (.int .i64 0)), (.val (.int .i64 0))]) 2), ⟨none, .store 4 (o_ 6) (o_ 27), none, 3, [], true, []⟩, (oP 7 (.mov (o_ 28)) 3)]
def rg_13_2 : List AOper := [(oP 29 (.mov (o_ 5)) 0), (oP 30 (.bin false .neq (o_ 29) (oc 0)) 0), (oP 31 (.mov (o_ 30)) 0), (oG 32 (.mov (o_ 3)) 31 false 0), (oG 33 (.bslice 1 2 [(.val (.int .i64 0))] [(0, (oc 3)), (1, (oc 1))]) 31 false 0), (oG 34 (.call 25 [(o_ 32), (o_ 33)]) 31 false 1), (oG 35 (.un .not (o_ 34)) 31 false 2), (oP 36 (.pick (o_ 31) (.const (.bool true)) (o_ 35)) 2), (oP 37 (.mov (o_ 36)) 2), (oG 38 (.mov (o_ 4)) 37 false 2), (oG 39 (.bin false .neq (o_ 38) (oc 11)) 37 false 2), (oP 40 (.pick (o_ 37) (.const (.bool true)) (o_ 39)) 2), (oP 41 (.mov (o_ 40)) 2), (oG 42 (.mov (o_ 7)) 41 false 2), (oG 43 (.bin false .neq (o_ 42) (oc 100)) 41 false 2), (oP 44 (.pick (o_ 41) (.const (.bool true)) (o_ 43)) 2), (oP 45 (.mov (o_ 44)) 2), (oG 46 (.load (some 4) (o_ 6)) 45 false 2), (oG 47 (.build [(.val (.int .u8 0)), (.val (.int .i64 0)), (.val (.int .i64 0)), (.val (.int .i64 0))] [(0, 1, (.const (.int .u8 4))), (2, 1, (oc 1))]) 45 false 2), (oG 48 (.eqAgg .neq [0, 0, 0, 0] (o_ 46) (o_ 47)) 45 false 2), (oP 49 (.pick (o_ 45) (.const (.bool true)) (o_ 48)) 2)]
def rg_13_3 : List AOper := [(oP 51 (.load (some 4) (o_ 1)) 0), (oP 52 (.mov (o_ 2)) 0), (oP 53 (.mov (o_ 3)) 0), (oP 54 (.call 42 [(o_ 51), (o_ 52), (o_ 53), (oc 0)]) 0), (oP 50 (.mov (o_ 54)) 1), (oP 55 (.extract (o_ 50) 0) 1), (oP 56 (.extract (o_ 50) 1) 1), (oP 8 (.mov (o_ 55)) 1), (oP 5 (.mov (o_ 56)) 1)]
def rg_13_4 : List AOper := [(oP 58 (.mov (o_ 10)) 0), (oP 59 (.mov (o_ 8)) 0), (oP 60 (.len false (o_ 59)) 0), (oP 61 (.bin false .lss (o_ 58) (o_ 60)) 0), (oP 62 (.mov (o_ 61)) 0), (oG 63 (.mov (o_ 8)) 62 true 0), (oG 64 (.len false (o_ 63)) 62 true 0), (oG 65 (.mov (o_ 9)) 62 true 0), (oG 66 (.len false (o_ 65)) 62 true 0), (oG 67 (.bin false .eql (o_ 64) (o_ 66)) 62 true 0), (oP 68 (.pick (o_ 62) (o_ 67) (.const (.bool false))) 0)]
def rg_13_5 : List AOper := [(oP 71 (.mov (o_ 8)) 0), (oP 72 (.mov (o_ 10)) 0), ⟨(some 73), .iaddr 1 (o_ 71) (o_ 72), none, 0, [2, 3], false, []⟩, ⟨(some 74), .load none (o_ 73), none, 1, [2, 3], false, []⟩, (oP 75 (.mov (o_ 9)) 2), (oP 76 (.mov (o_ 10)) 2), ⟨(some 77), .iaddr 1 (o_ 75) (o_ 76), none, 2, [0, 1], false, []⟩, ⟨(some 78), .load none (o_ 77), none, 3, [0, 1], false, []⟩, (oP 79 (.bin false .neq (o_ 74) (o_ 78)) 4)]
def lp_13_6 : ACode := (.seq (.seq (.region rg_13_4 0)
 (.cond (o_ 68)
 .skip
 (.exit 0)))
 (.seq (.block 1 (.seq (.region rg_13_5 4)
 (.cond (o_ 79)
 (.seq (.region [(oP 0 (.mov (.const (.bool false))) 0)] 0)
 .ret)
 .skip)))
 (.region [(oP 69 (.mov (o_ 10)) 0), (oP 70 (.bin false .add (o_ 69) (oc 1)) 0), (oP 10 (.mov (o_ 70)) 0)] 0)))
def rg_13_7 : List AOper := [(oP 80 (.mov (o_ 5)) 0), (oP 81 (.bin false .eql (o_ 80) (oc 0)) 0), (oP 82 (.mov (o_ 81)) 0), (oG 83 (.mov (o_ 8)) 82 true 0), (oG 84 (.len false (o_ 83)) 82 true 0), (oG 85 (.mov (o_ 9)) 82 true 0), (oG 86 (.len false (o_ 85)) 82 true 0), (oG 87 (.bin false .eql (o_ 84) (o_ 86)) 82 true 0), (oP 88 (.pick (o_ 82) (o_ 87) (.const (.bool false))) 0), (oP 0 (.mov (o_ 88)) 0)]
def rs_13_8 : ACode := (.seq (.region rg_13_7 0)
 .ret)
def af_13 : AFun := ⟨89, [.inl 0], (.seq (.region [(oP 0 (.mov (.const (.bool false))) 0)] 0)
 (.seq (.region [(oP 12 (.call 47 []) 0), (oP 11 (.mov (o_ 12)) 1), (oP 13 (.extract (o_ 11) 0) 1), (oP 14 (.extract (o_ 11) 1) 1), (oP 1 (.zero [(.val (.int .i64 0)), (.val (.int .i64 0)), (.val (.slice none 0 0)), (.val (.slice none 0 0))]) 1), ⟨none, .store 4 (o_ 1) (o_ 13), none, 2, [], true, []⟩, (oP 2 (.mov (o_ 14)) 2)] 2)
 (.seq (.region rg_13_0 1)
 (.seq (.region rg_13_1 3)
 (.seq (.seq (.region rg_13_2 2)
 (.cond (o_ 49)
 (.seq (.region [(oP 0 (.mov (.const (.bool false))) 0)] 0)
 .ret)
 .skip))
 (.seq (.region rg_13_3 1)
 (.seq (.region [(oP 57 (.bslice 1 6 [(.val (.int .u8 0))] [(0, (.const (.int .u8 3))), (1, (.const (.int .u8 3))), (2, (.const (.int .u8 2))), (3, (.const (.int .u8 1))), (4, (.const (.int .u8 1))), (5, (.const (.int .u8 0)))]) 0), (oP 9 (.mov (o_ 57)) 1)] 1)
 (.seq (.seq (.region [(oP 10 (.mov (oc 0)) 0)] 0)
 (.block 0 (.loop lp_13_6)))
 rs_13_8))))))))⟩
def rg_14_0 : List AOper := [⟨(some 3), .emptyS, none, 0, [1, 2, 4, 5, 6], false, []⟩, ⟨(some 4), .faddr 2 (o_ 1), none, 1, [0, 4, 5, 6], false, []⟩, ⟨(some 5), .load none (o_ 4), none, 2, [0, 4, 5, 6], false, []⟩, ⟨(some 6), .append 1 (o_ 3) (o_ 5), none, 3, [4, 5, 6], false, [0]⟩, ⟨(some 7), .emptyS, none, 4, [0, 1, 2, 3, 0, 5, 6, 8], false, []⟩, ⟨(some 8), .faddr 3 (o_ 1), none, 5, [0, 1, 2, 3, 0, 4], false, []⟩, ⟨(some 9), .load none (o_ 8), none, 6, [0, 1, 2, 3, 0, 4], false, []⟩, ⟨(some 10), .append 1 (o_ 7) (o_ 9), none, 7, [8], false, [4]⟩, ⟨(some 11), .faddr 2 (o_ 1), none, 8, [4, 7, 4], false, []⟩, ⟨none, .store 1 (o_ 11) (o_ 6), none, 9, [], true, []⟩, (oP 12 (.faddr 3 (o_ 1)) 10), ⟨none, .store 1 (o_ 12) (o_ 10), none, 11, [], true, []⟩]
def af_14 : AFun := ⟨14, [.inr (2, (some 4))], (.seq (.region [(oP 1 (.box 4 (o_ 0)) 0), (oP 2 (.zero [(.val (.int .i64 0)), (.val (.int .i64 0)), (.val (.slice none 0 0)), (.val (.slice none 0 0))]) 1)] 2)
 (.seq (.region rg_14_0 12)
 (.seq (.region [(oP 13 (.load (some 4) (o_ 1)) 0), ⟨none, .store 4 (o_ 2) (o_ 13), none, 0, [], true, []⟩] 0)
 .ret)))⟩
def af_15 : AFun := ⟨6, [.inl 2], (.seq (.region [(oP 2 (.mov (.const (.slice none 0 0))) 0)] 0)
 (.seq (.region [(oP 3 (.bslice 7 0 [(.val (.int .i64 0)), (.val (.int .i64 0)), (.val (.int .i64 0)), (.val (.int .i64 0)), (.val (.int .i64 0)), (.val (.int .i64 0)), (.val (.int .i64 0))] []) 0), (oP 4 (.mov (o_ 0)) 1), (oP 5 (.append 7 (o_ 3) (o_ 4)) 1), (oP 2 (.mov (o_ 5)) 2)] 2)
 .ret))⟩
def af_16 : AFun := ⟨6, [.inl 2], (.seq (.region [(oP 2 (.mov (.const (.slice none 0 0))) 0)] 0)
 (.seq (.region [(oP 3 (.bslice 1 0 [(.val (.int .i64 0))] []) 0), (oP 4 (.mov (o_ 0)) 1), (oP 5 (.append 1 (o_ 3) (o_ 4)) 1), (oP 2 (.mov (o_ 5)) 2)] 2)
 .ret))⟩
def rg_40_0 : List AOper := [(oP 15 (.load (some 4) (o_ 4)) 0), (oP 16 (.mov (o_ 1)) 0), (oP 17 (.mov (o_ 2)) 0), (oP 18 (.call 59 [(o_ 15), (o_ 16), (o_ 17)]) 0), (oP 14 (.mov (o_ 18)) 1), (oP 19 (.extract (o_ 14) 0) 1), (oP 20 (.extract (o_ 14) 1) 1), (oP 10 (.mov (o_ 19)) 1), (oP 11 (.mov (o_ 20)) 1)]
def af_40 : AFun := ⟨44, [.inl 8, .inl 9], (.seq (.region [(oP 4 (.box 4 (o_ 0)) 0), (oP 7 (.box 7 (o_ 3)) 1), (oP 8 (.mov (oc 0)) 2), (oP 9 (.mov (oc 0)) 2)] 2)
 (.seq (.region rg_40_0 1)
 (.seq (.seq (.region [(oP 21 (.mov (o_ 11)) 0), (oP 22 (.bin false .neq (o_ 21) (oc 0)) 0)] 0)
 (.cond (o_ 22)
 (.seq (.region [(oP 23 (.mov (o_ 11)) 0), (oP 8 (.mov (oc 0)) 0), (oP 9 (.mov (o_ 23)) 0)] 0)
 .ret)
 .skip))
 (.seq (.seq (.region [⟨(some 24), .load (some 4) (o_ 4), none, 0, [1, 2, 3, 4, 1], false, []⟩, (oP 25 (.mov (o_ 1)) 1), ⟨(some 26), .call 76 [(o_ 25)], none, 1, [0, 2, 3], false, []⟩, ⟨(some 27), .load (some 7) (o_ 7), none, 2, [0, 1], false, []⟩, ⟨(some 28), .bslice 7 1 [(.val (.int .i64 0)), (.val (.int .i64 0)), (.val (.int .i64 0)), (.val (.int .i64 0)), (.val (.int .i64 0)), (.val (.int .i64 0)), (.val (.int .i64 0))] [(0, (o_ 27))], none, 3, [0, 1], false, []⟩, ⟨(some 29), .append 7 (o_ 26) (o_ 28), none, 4, [0], false, [1]⟩, (oP 30 (.call 18 [(o_ 24), (o_ 29)]) 5), (oP 12 (.mov (o_ 30)) 6)] 6)
 (.seq (.region [(oP 31 (.mov (o_ 12)) 0), (oP 32 (.bin false .neq (o_ 31) (oc 0)) 0)] 0)
 (.cond (o_ 32)
 (.seq (.region [(oP 33 (.mov (o_ 12)) 0), (oP 8 (.mov (oc 0)) 0), (oP 9 (.mov (o_ 33)) 0)] 0)
 .ret)
 .skip)))
 (.seq (.region [(oP 34 (.load (some 4) (o_ 4)) 0), (oP 35 (.mov (o_ 10)) 0), (oP 36 (.load (some 7) (o_ 7)) 0), (oP 37 (.call 73 [(o_ 34), (o_ 35), (o_ 36)]) 0), (oP 13 (.mov (o_ 37)) 1)] 1)
 (.seq (.seq (.region [(oP 38 (.mov (o_ 13)) 0), (oP 39 (.len false (o_ 38)) 0), (oP 40 (.bin false .eql (o_ 39) (oc 0)) 0)] 0)
 (.cond (o_ 40)
 (.seq (.region [(oP 8 (.mov (oc 0)) 0), (oP 9 (.mov (oc 102)) 0)] 0)
 .ret)
 .skip))
 (.seq (.region [(oP 41 (.mov (o_ 13)) 0), (oP 42 (.iaddr 1 (o_ 41) (oc 0)) 0), (oP 43 (.load none (o_ 42)) 0), (oP 8 (.mov (o_ 43)) 0), (oP 9 (.mov (oc 0)) 0)] 0)
 .ret)))))))⟩
def af_26 : AFun := ⟨22, [.inl 6], (.seq (.region [(oP 3 (.box 4 (o_ 0)) 0), (oP 6 (.mov (oc 0)) 1)] 1)
 (.seq (.seq (.region [(oP 7 (.load (some 4) (o_ 3)) 0), (oP 8 (.mov (o_ 1)) 0), (oP 9 (.call 20 [(o_ 7), (o_ 8)]) 0), (oP 10 (.un .not (o_ 9)) 1)] 1)
 (.cond (o_ 10)
 (.seq (.region [(oP 6 (.mov (oc 2)) 0)] 0)
 .ret)
 .skip))
 (.seq (.seq (.region [(oP 11 (.mov (o_ 2)) 0), (oP 12 (.len false (o_ 11)) 0), (oP 13 (.mov (o_ 1)) 0), (oP 14 (.len false (o_ 13)) 0), (oP 15 (.bin false .neq (o_ 12) (o_ 14)) 0)] 0)
 (.cond (o_ 15)
 (.seq (.region [(oP 6 (.mov (oc 5)) 0)] 0)
 .ret)
 .skip))
 (.seq (.seq (.region [(oP 16 (.load (some 4) (o_ 3)) 0), (oP 17 (.mov (o_ 1)) 0), (oP 18 (.mov (o_ 2)) 0), (oP 19 (.call 27 [(o_ 16), (o_ 17), (o_ 18)]) 0), (oP 20 (.field none 0 (o_ 19)) 1), (oP 21 (.bin false .neq (o_ 20) (.const (.int .u8 0))) 1)] 1)
 (.cond (o_ 21)
 (.seq (.region [(oP 6 (.mov (oc 100)) 0)] 0)
 .ret)
 .skip))
 (.seq (.region [(oP 6 (.mov (oc 0)) 0)] 0)
 .ret)))))⟩
def rg_20_0 : List AOper := [(oP 25 (.faddr 0 (o_ 6)) 0), (oP 26 (.load none (o_ 25)) 0), (oP 27 (.call 56 [(o_ 26), (oc 0), (oc 20)]) 0), (oP 28 (.un .not (o_ 27)) 1), (oP 29 (.mov (o_ 28)) 1), (oG 30 (.faddr 1 (o_ 6)) 29 false 1), (oG 31 (.load none (o_ 30)) 29 false 1), (oG 32 (.call 56 [(o_ 31), (oc 0), (oc 24)]) 29 false 1), (oG 33 (.un .not (o_ 32)) 29 false 2), (oP 34 (.pick (o_ 29) (.const (.bool true)) (o_ 33)) 2), (oP 35 (.mov (o_ 34)) 2), (oG 36 (.faddr 2 (o_ 6)) 35 false 2), (oG 37 (.load none (o_ 36)) 35 false 2), (oG 38 (.call 56 [(o_ 37), (oc 1), (oc 24)]) 35 false 2), (oG 39 (.un .not (o_ 38)) 35 false 3), (oP 40 (.pick (o_ 35) (.const (.bool true)) (o_ 39)) 3), (oP 41 (.mov (o_ 40)) 3), (oG 42 (.faddr 3 (o_ 6)) 41 false 3), (oG 43 (.load none (o_ 42)) 41 false 3), (oG 44 (.call 56 [(o_ 43), (oc 0), (oc 1000)]) 41 false 3), (oG 45 (.un .not (o_ 44)) 41 false 4), (oP 46 (.pick (o_ 41) (.const (.bool true)) (o_ 45)) 4), (oP 47 (.mov (o_ 46)) 4), (oG 48 (.faddr 4 (o_ 6)) 47 false 4), (oG 49 (.load none (o_ 48)) 47 false 4), (oG 50 (.faddr 5 (o_ 6)) 47 false 4), (oG 51 (.load none (o_ 50)) 47 false 4), (oG 52 (.call 56 [(o_ 49), (oc 0), (o_ 51)]) 47 false 4), (oG 53 (.un .not (o_ 52)) 47 false 5), (oP 54 (.pick (o_ 47) (.const (.bool true)) (o_ 53)) 5), (oP 55 (.mov (o_ 54)) 5), (oG 56 (.faddr 5 (o_ 6)) 55 false 5), (oG 57 (.load none (o_ 56)) 55 false 5), (oG 58 (.faddr 2 (o_ 2)) 55 false 5), (oG 59 (.load none (o_ 58)) 55 false 5), (oG 60 (.len false (o_ 59)) 55 false 5), (oG 61 (.bin false .gtr (o_ 57) (o_ 60)) 55 false 5), (oP 62 (.pick (o_ 55) (.const (.bool true)) (o_ 61)) 5), (oP 63 (.mov (o_ 62)) 5), (oG 64 (.faddr 6 (o_ 6)) 63 false 5), (oG 65 (.load none (o_ 64)) 63 false 5), (oG 66 (.call 56 [(o_ 65), (oc 0), (oc 100)]) 63 false 5), (oG 67 (.un .not (o_ 66)) 63 false 6), (oP 68 (.pick (o_ 63) (.const (.bool true)) (o_ 67)) 6)]
def lp_20_1 : ACode := (.seq (.seq (.region [(oP 15 (.mov (o_ 5)) 0), (oP 16 (.mov (o_ 1)) 0), (oP 17 (.len false (o_ 16)) 0), (oP 18 (.bin false .lss (o_ 15) (o_ 17)) 0)] 0)
 (.cond (o_ 18)
 .skip
 (.exit 0)))
 (.seq (.block 1 (.seq (.region [(oP 21 (.mov (o_ 1)) 0), (oP 22 (.mov (o_ 5)) 0), (oP 23 (.iaddr 7 (o_ 21) (o_ 22)) 0), (oP 24 (.load (some 7) (o_ 23)) 0), (oP 6 (.zero [(.val (.int .i64 0)), (.val (.int .i64 0)), (.val (.int .i64 0)), (.val (.int .i64 0)), (.val (.int .i64 0)), (.val (.int .i64 0)), (.val (.int .i64 0))]) 0), ⟨none, .store 7 (o_ 6) (o_ 24), none, 1, [], true, []⟩] 1)
 (.seq (.region rg_20_0 6)
 (.cond (o_ 68)
 (.seq (.region [(oP 4 (.mov (.const (.bool false))) 0)] 0)
 .ret)
 .skip))))
 (.region [(oP 19 (.mov (o_ 5)) 0), (oP 20 (.bin false .add (o_ 19) (oc 1)) 0), (oP 5 (.mov (o_ 20)) 0)] 0)))
def rs_20_2 : ACode := (.seq (.region [(oP 4 (.mov (.const (.bool true))) 0)] 0)
 .ret)
def af_20 : AFun := ⟨69, [.inl 4], (.seq (.region [(oP 2 (.box 4 (o_ 0)) 0), (oP 4 (.mov (.const (.bool false))) 1)] 1)
 (.seq (.seq (.region [(oP 7 (.load (some 4) (o_ 2)) 0), (oP 8 (.call 19 [(o_ 7)]) 0), (oP 9 (.un .not (o_ 8)) 1), (oP 10 (.mov (o_ 9)) 1), (oG 11 (.mov (o_ 1)) 10 false 1), (oG 12 (.len false (o_ 11)) 10 false 1), (oG 13 (.bin false .gtr (o_ 12) (oc 16)) 10 false 1), (oP 14 (.pick (o_ 10) (.const (.bool true)) (o_ 13)) 1)] 1)
 (.cond (o_ 14)
 (.seq (.region [(oP 4 (.mov (.const (.bool false))) 0)] 0)
 .ret)
 .skip))
 (.seq (.seq (.region [(oP 5 (.mov (oc 0)) 0)] 0)
 (.block 0 (.loop lp_20_1)))
 rs_20_2)))⟩
def rg_27_0 : List AOper := [(oP 21 (.mov (o_ 2)) 0), (oP 22 (.mov (o_ 7)) 0), ⟨(some 23), .iaddr 1 (o_ 21) (o_ 22), none, 0, [2, 3, 4, 5, 6, 7, 8, 9, 10, 11, 12, 13], false, []⟩, ⟨(some 24), .load none (o_ 23), none, 1, [2, 3, 4, 5, 6, 7, 8, 9, 10, 11, 12, 13], false, []⟩, (oP 25 (.mov (o_ 1)) 2), (oP 26 (.mov (o_ 7)) 2), ⟨(some 27), .iaddr 7 (o_ 25) (o_ 26), none, 2, [0, 1, 5, 6, 7, 8, 9, 10, 11, 12, 13], false, []⟩, ⟨(some 28), .faddr 4 (o_ 27), none, 3, [0, 1, 5, 6, 7, 8, 9, 10, 11, 12, 13], false, []⟩, ⟨(some 29), .load none (o_ 28), none, 4, [0, 1, 5, 6, 7, 8, 9, 10, 11, 12, 13], false, []⟩, (oP 30 (.mov (o_ 1)) 5), (oP 31 (.mov (o_ 7)) 5), ⟨(some 32), .iaddr 7 (o_ 30) (o_ 31), none, 5, [0, 1, 2, 3, 4, 8, 9, 10, 11, 12, 13], false, []⟩, ⟨(some 33), .faddr 1 (o_ 32), none, 6, [0, 1, 2, 3, 4, 8, 9, 10, 11, 12, 13], false, []⟩, ⟨(some 34), .load none (o_ 33), none, 7, [0, 1, 2, 3, 4, 8, 9, 10, 11, 12, 13], false, []⟩, (oP 35 (.bin false .add (o_ 29) (o_ 34)) 8), (oP 36 (.mov (o_ 1)) 8), (oP 37 (.mov (o_ 7)) 8), ⟨(some 38), .iaddr 7 (o_ 36) (o_ 37), none, 8, [0, 1, 2, 3, 4, 5, 6, 7, 11, 12, 13], false, []⟩, ⟨(some 39), .faddr 5 (o_ 38), none, 9, [0, 1, 2, 3, 4, 5, 6, 7, 11, 12, 13], false, []⟩, ⟨(some 40), .load none (o_ 39), none, 10, [0, 1, 2, 3, 4, 5, 6, 7, 11, 12, 13], false, []⟩, (oP 41 (.mov (o_ 1)) 11), (oP 42 (.mov (o_ 7)) 11), ⟨(some 43), .iaddr 7 (o_ 41) (o_ 42), none, 11, [0, 1, 2, 3, 4, 5, 6, 7, 8, 9, 10], false, []⟩, ⟨(some 44), .faddr 2 (o_ 43), none, 12, [0, 1, 2, 3, 4, 5, 6, 7, 8, 9, 10], false, []⟩, ⟨(some 45), .load none (o_ 44), none, 13, [0, 1, 2, 3, 4, 5, 6, 7, 8, 9, 10], false, []⟩, (oP 46 (.bin false .sub (o_ 40) (o_ 45)) 14), (oP 47 (.call 56 [(o_ 24), (o_ 35), (o_ 46)]) 14), (oP 48 (.un .not (o_ 47)) 15)]
def lp_27_1 : ACode := (.seq (.seq (.region [(oP 15 (.mov (o_ 7)) 0), (oP 16 (.mov (o_ 1)) 0), (oP 17 (.len false (o_ 16)) 0), (oP 18 (.bin false .lss (o_ 15) (o_ 17)) 0)] 0)
 (.cond (o_ 18)
 .skip
 (.exit 0)))
 (.seq (.block 1 (.seq (.region rg_27_0 15)
 (.cond (o_ 48)
 (.seq (.region [(oP 49 (.mov (o_ 7)) 0), (oP 50 (.build [(.val (.int .u8 0)), (.val (.int .i64 0)), (.val (.int .i64 0)), (.val (.int .i64 0))] [(0, 1, (.const (.int .u8 1))), (1, 1, (o_ 49))]) 0), ⟨none, .store 4 (o_ 6) (o_ 50), none, 0, [], true, []⟩] 0)
 .ret)
 .skip)))
 (.region [(oP 19 (.mov (o_ 7)) 0), (oP 20 (.bin false .add (o_ 19) (oc 1)) 0), (oP 7 (.mov (o_ 20)) 0)] 0)))
def rg_27_2 : List AOper := [(oP 64 (.mov (o_ 1)) 0), (oP 65 (.mov (o_ 8)) 0), ⟨(some 66), .iaddr 7 (o_ 64) (o_ 65), none, 0, [2, 3], false, []⟩, ⟨(some 67), .load (some 7) (o_ 66), none, 1, [2, 3], false, []⟩, (oP 68 (.mov (o_ 2)) 2), (oP 69 (.mov (o_ 8)) 2), ⟨(some 70), .iaddr 1 (o_ 68) (o_ 69), none, 2, [0, 1], false, []⟩, ⟨(some 71), .load none (o_ 70), none, 3, [0, 1], false, []⟩, (oP 72 (.mov (o_ 9)) 4), (oP 73 (.call 68 [(o_ 67), (o_ 71), (o_ 72)]) 4), (oP 74 (.mov (o_ 73)) 5), (oG 75 (.faddr 2 (o_ 3)) 74 true 5), (oG 76 (.load none (o_ 75)) 74 true 6), (oG 77 (.mov (o_ 9)) 74 true 7), (oG 78 (.iaddr 1 (o_ 76) (o_ 77)) 74 true 7), (oG 79 (.load none (o_ 78)) 74 true 8), (oG 80 (.bin false .eql (o_ 79) (oc 0)) 74 true 9), (oP 81 (.pick (o_ 74) (o_ 80) (.const (.bool false))) 9)]
def lp_27_3 : ACode := (.seq (.seq (.region [(oP 57 (.mov (o_ 9)) 0), (oP 58 (.faddr 2 (o_ 3)) 0), (oP 59 (.load none (o_ 58)) 0), (oP 60 (.len false (o_ 59)) 0), (oP 61 (.bin false .lss (o_ 57) (o_ 60)) 0)] 0)
 (.cond (o_ 61)
 .skip
 (.exit 4)))
 (.seq (.block 5 (.seq (.region rg_27_2 9)
 (.cond (o_ 81)
 (.seq (.region [(oP 82 (.mov (o_ 8)) 0), (oP 83 (.mov (o_ 9)) 0), (oP 84 (.build [(.val (.int .u8 0)), (.val (.int .i64 0)), (.val (.int .i64 0)), (.val (.int .i64 0))] [(0, 1, (.const (.int .u8 2))), (1, 1, (o_ 82)), (3, 1, (o_ 83))]) 0), ⟨none, .store 4 (o_ 6) (o_ 84), none, 0, [], true, []⟩] 0)
 .ret)
 .skip)))
 (.region [(oP 62 (.mov (o_ 9)) 0), (oP 63 (.bin false .add (o_ 62) (oc 1)) 0), (oP 9 (.mov (o_ 63)) 0)] 0)))
def rs_27_4 : ACode := (.region [(oP 55 (.mov (o_ 8)) 0), (oP 56 (.bin false .add (o_ 55) (oc 1)) 0), (oP 8 (.mov (o_ 56)) 0)] 0)
def lp_27_5 : ACode := (.seq (.seq (.region [(oP 51 (.mov (o_ 8)) 0), (oP 52 (.mov (o_ 1)) 0), (oP 53 (.len false (o_ 52)) 0), (oP 54 (.bin false .lss (o_ 51) (o_ 53)) 0)] 0)
 (.cond (o_ 54)
 .skip
 (.exit 2)))
 (.seq (.block 3 (.seq (.region [(oP 9 (.mov (oc 0)) 0)] 0)
 (.block 4 (.loop lp_27_3))))
 rs_27_4))
def rg_27_6 : List AOper := [(oP 98 (.mov (o_ 1)) 0), (oP 99 (.mov (o_ 10)) 0), ⟨(some 100), .iaddr 7 (o_ 98) (o_ 99), none, 0, [2, 3], false, []⟩, ⟨(some 101), .load (some 7) (o_ 100), none, 1, [2, 3], false, []⟩, (oP 102 (.mov (o_ 2)) 2), (oP 103 (.mov (o_ 10)) 2), ⟨(some 104), .iaddr 1 (o_ 102) (o_ 103), none, 2, [0, 1], false, []⟩, ⟨(some 105), .load none (o_ 104), none, 3, [0, 1], false, []⟩, (oP 106 (.mov (o_ 11)) 4), (oP 107 (.call 68 [(o_ 101), (o_ 105), (o_ 106)]) 4), (oP 108 (.mov (o_ 107)) 5), ⟨(some 109), .faddr 3 (o_ 3), (some ((some 108), true)), 5, [9, 10, 11], false, []⟩, ⟨(some 110), .load none (o_ 109), (some ((some 108), true)), 6, [9, 10, 11], false, []⟩, (oG 111 (.mov (o_ 11)) 108 true 7), ⟨(some 112), .iaddr 1 (o_ 110) (o_ 111), (some ((some 108), true)), 7, [9, 10, 11], false, []⟩, ⟨(some 113), .load none (o_ 112), (some ((some 108), true)), 8, [9, 10, 11], false, []⟩, (oG 114 (.mov (o_ 1)) 108 true 9), (oG 115 (.mov (o_ 10)) 108 true 9), ⟨(some 116), .iaddr 7 (o_ 114) (o_ 115), (some ((some 108), true)), 9, [5, 6, 7, 8], false, []⟩, ⟨(some 117), .faddr 3 (o_ 116), (some ((some 108), true)), 10, [5, 6, 7, 8], false, []⟩, ⟨(some 118), .load none (o_ 117), (some ((some 108), true)), 11, [5, 6, 7, 8], false, []⟩, (oG 119 (.bin false .lss (o_ 113) (o_ 118)) 108 true 12), (oP 120 (.pick (o_ 108) (o_ 119) (.const (.bool false))) 12)]
def lp_27_7 : ACode := (.seq (.seq (.region [(oP 91 (.mov (o_ 11)) 0), (oP 92 (.faddr 2 (o_ 3)) 0), (oP 93 (.load none (o_ 92)) 0), (oP 94 (.len false (o_ 93)) 0), (oP 95 (.bin false .lss (o_ 91) (o_ 94)) 0)] 0)
 (.cond (o_ 95)
 .skip
 (.exit 8)))
 (.seq (.block 9 (.seq (.region rg_27_6 12)
 (.cond (o_ 120)
 (.seq (.region [(oP 121 (.mov (o_ 10)) 0), (oP 122 (.mov (o_ 11)) 0), (oP 123 (.build [(.val (.int .u8 0)), (.val (.int .i64 0)), (.val (.int .i64 0)), (.val (.int .i64 0))] [(0, 1, (.const (.int .u8 3))), (1, 1, (o_ 121)), (3, 1, (o_ 122))]) 0), ⟨none, .store 4 (o_ 6) (o_ 123), none, 0, [], true, []⟩] 0)
 .ret)
 .skip)))
 (.region [(oP 96 (.mov (o_ 11)) 0), (oP 97 (.bin false .add (o_ 96) (oc 1)) 0), (oP 11 (.mov (o_ 97)) 0)] 0)))
def rs_27_8 : ACode := (.region [(oP 89 (.mov (o_ 10)) 0), (oP 90 (.bin false .add (o_ 89) (oc 1)) 0), (oP 10 (.mov (o_ 90)) 0)] 0)
def lp_27_9 : ACode := (.seq (.seq (.region [(oP 85 (.mov (o_ 10)) 0), (oP 86 (.mov (o_ 1)) 0), (oP 87 (.len false (o_ 86)) 0), (oP 88 (.bin false .lss (o_ 85) (o_ 87)) 0)] 0)
 (.cond (o_ 88)
 .skip
 (.exit 6)))
 (.seq (.block 7 (.seq (.region [(oP 11 (.mov (oc 0)) 0)] 0)
 (.block 8 (.loop lp_27_7))))
 rs_27_8))
def lp_27_10 : ACode := (.seq (.seq (.region [(oP 132 (.mov (o_ 13)) 0), (oP 133 (.mov (o_ 1)) 0), (oP 134 (.len false (o_ 133)) 0), (oP 135 (.bin false .lss (o_ 132) (o_ 134)) 0)] 0)
 (.cond (o_ 135)
 .skip
 (.exit 12)))
 (.seq (.block 13 (.seq (.region [(oP 138 (.load (some 4) (o_ 3)) 0), (oP 139 (.mov (o_ 1)) 0), (oP 140 (.mov (o_ 2)) 0), (oP 141 (.mov (o_ 12)) 0), (oP 142 (.mov (o_ 13)) 0), (oP 143 (.call 69 [(o_ 138), (o_ 139), (o_ 140), (o_ 141), (o_ 142)]) 0)] 1)
 (.cond (o_ 143)
 (.seq (.region [(oP 144 (.mov (o_ 12)) 0), (oP 145 (.mov (o_ 13)) 0), (oP 146 (.build [(.val (.int .u8 0)), (.val (.int .i64 0)), (.val (.int .i64 0)), (.val (.int .i64 0))] [(0, 1, (.const (.int .u8 4))), (1, 1, (o_ 144)), (2, 1, (o_ 145))]) 0), ⟨none, .store 4 (o_ 6) (o_ 146), none, 0, [], true, []⟩] 0)
 .ret)
 .skip)))
 (.region [(oP 136 (.mov (o_ 13)) 0), (oP 137 (.bin false .add (o_ 136) (oc 1)) 0), (oP 13 (.mov (o_ 137)) 0)] 0)))
def rs_27_11 : ACode := (.region [(oP 128 (.mov (o_ 12)) 0), (oP 129 (.bin false .add (o_ 128) (oc 1)) 0), (oP 12 (.mov (o_ 129)) 0)] 0)
def lp_27_12 : ACode := (.seq (.seq (.region [(oP 124 (.mov (o_ 12)) 0), (oP 125 (.mov (o_ 1)) 0), (oP 126 (.len false (o_ 125)) 0), (oP 127 (.bin false .lss (o_ 124) (o_ 126)) 0)] 0)
 (.cond (o_ 127)
 .skip
 (.exit 10)))
 (.seq (.block 11 (.seq (.region [(oP 130 (.mov (o_ 12)) 0), (oP 131 (.bin false .add (o_ 130) (oc 1)) 0), (oP 13 (.mov (o_ 131)) 0)] 0)
 (.block 12 (.loop lp_27_10))))
 rs_27_11))
def lp_27_13 : ACode := (.seq (.seq (.region [(oP 147 (.mov (o_ 14)) 0), (oP 148 (.faddr 2 (o_ 3)) 0), (oP 149 (.load none (o_ 148)) 0), (oP 150 (.len false (o_ 149)) 0), (oP 151 (.bin false .lss (o_ 147) (o_ 150)) 0)] 0)
 (.cond (o_ 151)
 .skip
 (.exit 14)))
 (.seq (.block 15 (.seq (.region [(oP 154 (.mov (o_ 1)) 0), (oP 155 (.mov (o_ 2)) 0), (oP 156 (.mov (o_ 14)) 0), ⟨(some 157), .call 31 [(o_ 154), (o_ 155), (o_ 156)], none, 0, [1, 2], false, []⟩, ⟨(some 158), .faddr 0 (o_ 3), none, 1, [0], false, []⟩, ⟨(some 159), .load none (o_ 158), none, 2, [0], false, []⟩, (oP 160 (.bin false .gtr (o_ 157) (o_ 159)) 3)] 3)
 (.cond (o_ 160)
 (.seq (.region [(oP 161 (.mov (o_ 14)) 0), (oP 162 (.build [(.val (.int .u8 0)), (.val (.int .i64 0)), (.val (.int .i64 0)), (.val (.int .i64 0))] [(0, 1, (.const (.int .u8 5))), (3, 1, (o_ 161))]) 0), ⟨none, .store 4 (o_ 6) (o_ 162), none, 0, [], true, []⟩] 0)
 .ret)
 .skip)))
 (.region [(oP 152 (.mov (o_ 14)) 0), (oP 153 (.bin false .add (o_ 152) (oc 1)) 0), (oP 14 (.mov (o_ 153)) 0)] 0)))
def rs_27_14 : ACode := (.seq (.region [(oP 163 (.build [(.val (.int .u8 0)), (.val (.int .i64 0)), (.val (.int .i64 0)), (.val (.int .i64 0))] []) 0), ⟨none, .store 4 (o_ 6) (o_ 163), none, 0, [], true, []⟩] 0)
 .ret)
def rs_27_15 : ACode := (.seq (.seq (.region [(oP 14 (.mov (oc 0)) 0)] 0)
 (.block 14 (.loop lp_27_13)))
 rs_27_14)
def rs_27_16 : ACode := (.seq (.seq (.region [(oP 12 (.mov (oc 0)) 0)] 0)
 (.block 10 (.loop lp_27_12)))
 rs_27_15)
def rs_27_17 : ACode := (.seq (.seq (.region [(oP 10 (.mov (oc 0)) 0)] 0)
 (.block 6 (.loop lp_27_9)))
 rs_27_16)
def rs_27_18 : ACode := (.seq (.seq (.region [(oP 8 (.mov (oc 0)) 0)] 0)
 (.block 2 (.loop lp_27_5)))
 rs_27_17)
def af_27 : AFun := ⟨164, [.inr (6, (some 4))], (.seq (.region [(oP 3 (.box 4 (o_ 0)) 0), (oP 6 (.zero [(.val (.int .u8 0)), (.val (.int .i64 0)), (.val (.int .i64 0)), (.val (.int .i64 0))]) 1)] 2)
 (.seq (.seq (.region [(oP 7 (.mov (oc 0)) 0)] 0)
 (.block 0 (.loop lp_27_1)))
 rs_27_18))⟩
def af_47 : AFun := ⟨8, [.inr (0, (some 4)), .inl 1], (.seq (.region [(oP 0 (.zero [(.val (.int .i64 0)), (.val (.int .i64 0)), (.val (.slice none 0 0)), (.val (.slice none 0 0))]) 0), (oP 1 (.mov (.const (.slice none 0 0))) 1)] 1)
 (.seq (.region [(oP 2 (.bslice 1 6 [(.val (.int .i64 0))] [(0, (oc 1)), (1, (oc 1)), (2, (oc 1)), (3, (oc 1)), (4, (oc 1)), (5, (oc 1))]) 0), (oP 3 (.bslice 1 6 [(.val (.int .i64 0))] [(0, (oc 10)), (1, (oc 10)), (2, (oc 10)), (3, (oc 10)), (4, (oc 10)), (5, (oc 10))]) 1), (oP 4 (.build [(.val (.int .i64 0)), (.val (.int .i64 0)), (.val (.slice none 0 0)), (.val (.slice none 0 0))] [(0, 1, (oc 1)), (1, 1, (oc 1)), (2, 1, (o_ 2)), (3, 1, (o_ 3))]) 2), (oP 5 (.build [(.val (.int .i64 0)), (.val (.int .i64 0)), (.val (.int .i64 0)), (.val (.int .i64 0)), (.val (.int .i64 0)), (.val (.int .i64 0)), (.val (.int .i64 0))] [(1, 1, (oc 1)), (2, 1, (oc 2)), (3, 1, (oc 5)), (5, 1, (oc 6)), (6, 1, (oc 1))]) 2), (oP 6 (.build [(.val (.int .i64 0)), (.val (.int .i64 0)), (.val (.int .i64 0)), (.val (.int .i64 0)), (.val (.int .i64 0)), (.val (.int .i64 0)), (.val (.int .i64 0))] [(0, 1, (oc 1)), (1, 1, (oc 1)), (2, 1, (oc 1)), (3, 1, (oc 5)), (5, 1, (oc 6)), (6, 1, (oc 3))]) 2), (oP 7 (.bslice 7 2 [(.val (.int .i64 0)), (.val (.int .i64 0)), (.val (.int .i64 0)), (.val (.int .i64 0)), (.val (.int .i64 0)), (.val (.int .i64 0)), (.val (.int .i64 0))] [(0, (o_ 5)), (1, (o_ 6))]) 2), ⟨none, .store 4 (o_ 0) (o_ 4), none, 3, [], true, []⟩, (oP 1 (.mov (o_ 7)) 3)] 3)
 .ret))⟩
def rg_33_0 : List AOper := [⟨(some 10), .load (some 4) (o_ 2), none, 0, [1, 2], false, []⟩, (oP 11 (.mov (o_ 1)) 1), (oP 12 (.mov (o_ 1)) 1), ⟨(some 13), .len false (o_ 12), none, 1, [0], false, []⟩, ⟨(some 14), .mkSlice 1 8 [(.val (.int .i64 0))] (o_ 13) (o_ 13), none, 2, [0], false, []⟩, (oP 15 (.call 57 [(o_ 10), (o_ 11), (o_ 14)]) 3), (oP 9 (.mov (o_ 15)) 4), (oP 16 (.extract (o_ 9) 0) 4), (oP 17 (.extract (o_ 9) 1) 4), (oP 7 (.mov (o_ 16)) 4), (oP 6 (.mov (o_ 17)) 4)]
def rg_33_1 : List AOper := [(oP 21 (.load (some 4) (o_ 2)) 0), (oP 22 (.mov (o_ 7)) 0), (oP 23 (.mov (o_ 8)) 0), (oP 24 (.call 72 [(o_ 21), (o_ 22), (o_ 23), (oc 0)]) 0), (oP 25 (.extract (o_ 24) 0) 1), (oP 26 (.extract (o_ 24) 1) 1), (oP 27 (.extract (o_ 24) 2) 1), (oP 4 (.mov (o_ 25)) 1), (oP 5 (.mov (o_ 26)) 1), (oP 6 (.mov (o_ 27)) 1)]
def af_33 : AFun := ⟨28, [.inl 4, .inl 5, .inl 6], (.seq (.region [(oP 2 (.box 4 (o_ 0)) 0), (oP 4 (.mov (.const (.slice none 0 0))) 1), (oP 5 (.mov (oc 0)) 1), (oP 6 (.mov (oc 0)) 1)] 1)
 (.seq (.region rg_33_0 4)
 (.seq (.seq (.region [(oP 18 (.mov (o_ 6)) 0), (oP 19 (.bin false .neq (o_ 18) (oc 0)) 0)] 0)
 (.cond (o_ 19)
 (.seq (.region [(oP 20 (.mov (o_ 6)) 0), (oP 4 (.mov (.const (.slice none 0 0))) 0), (oP 5 (.mov (oc 0)) 0), (oP 6 (.mov (o_ 20)) 0)] 0)
 .ret)
 .skip))
 (.seq (.region [(oP 8 (.mov (.func 71)) 0)] 0)
 (.seq (.region rg_33_1 1)
 .ret)))))⟩
def rg_21_0 : List AOper := [(oP 12 (.load (some 4) (o_ 3)) 0), (oP 13 (.mov (o_ 1)) 0), (oP 14 (.mov (o_ 2)) 0), (oP 15 (.call 57 [(o_ 12), (o_ 13), (o_ 14)]) 0), (oP 11 (.mov (o_ 15)) 1), (oP 16 (.extract (o_ 11) 0) 1), (oP 17 (.extract (o_ 11) 1) 1), (oP 8 (.mov (o_ 16)) 1), (oP 9 (.mov (o_ 17)) 1)]
def af_21 : AFun := ⟨30, [.inr (6, (some 4)), .inl 7], (.seq (.region [(oP 3 (.box 4 (o_ 0)) 0), (oP 6 (.zero [(.val (.int .u8 0)), (.val (.int .i64 0)), (.val (.int .i64 0)), (.val (.int .i64 0))]) 1), (oP 7 (.mov (oc 0)) 2)] 2)
 (.seq (.region rg_21_0 1)
 (.seq (.seq (.region [(oP 18 (.mov (o_ 9)) 0), (oP 19 (.bin false .neq (o_ 18) (oc 0)) 0)] 0)
 (.cond (o_ 19)
 (.seq (.region [(oP 20 (.build [(.val (.int .u8 0)), (.val (.int .i64 0)), (.val (.int .i64 0)), (.val (.int .i64 0))] []) 0), (oP 21 (.mov (o_ 9)) 0), ⟨none, .store 4 (o_ 6) (o_ 20), none, 0, [], true, []⟩, (oP 7 (.mov (o_ 21)) 0)] 0)
 .ret)
 .skip))
 (.seq (.seq (.region [(oP 22 (.load (some 4) (o_ 3)) 0), (oP 23 (.mov (o_ 8)) 0), (oP 24 (.call 58 [(o_ 22), (o_ 23)]) 0), (oP 10 (.zero [(.val (.int .u8 0)), (.val (.int .i64 0)), (.val (.int .i64 0)), (.val (.int .i64 0))]) 1), ⟨none, .store 4 (o_ 10) (o_ 24), none, 2, [], true, []⟩] 2)
 (.seq (.region [(oP 25 (.faddr 0 (o_ 10)) 0), (oP 26 (.load none (o_ 25)) 0), (oP 27 (.bin false .neq (o_ 26) (.const (.int .u8 0))) 0)] 0)
 (.cond (o_ 27)
 (.seq (.region [(oP 28 (.load (some 4) (o_ 10)) 0), ⟨none, .store 4 (o_ 6) (o_ 28), none, 0, [], true, []⟩, (oP 7 (.mov (oc 100)) 0)] 0)
 .ret)
 .skip)))
 (.seq (.region [(oP 29 (.build [(.val (.int .u8 0)), (.val (.int .i64 0)), (.val (.int .i64 0)), (.val (.int .i64 0))] []) 0), ⟨none, .store 4 (o_ 6) (o_ 29), none, 0, [], true, []⟩, (oP 7 (.mov (oc 0)) 0)] 0)
 .ret)))))⟩
def rg_25_0 : List AOper := [(oP 17 (.mov (o_ 0)) 0), (oP 18 (.mov (o_ 5)) 0), ⟨(some 19), .iaddr 1 (o_ 17) (o_ 18), none, 0, [2, 3], false, []⟩, ⟨(some 20), .load none (o_ 19), none, 1, [2, 3], false, []⟩, (oP 21 (.mov (o_ 1)) 2), (oP 22 (.mov (o_ 5)) 2), ⟨(some 23), .iaddr 1 (o_ 21) (o_ 22), none, 2, [0, 1], false, []⟩, ⟨(some 24), .load none (o_ 23), none, 3, [0, 1], false, []⟩, (oP 25 (.bin false .neq (o_ 20) (o_ 24)) 4)]
def lp_25_1 : ACode := (.seq (.seq (.region [(oP 11 (.mov (o_ 5)) 0), (oP 12 (.mov (o_ 0)) 0), (oP 13 (.len false (o_ 12)) 0), (oP 14 (.bin false .lss (o_ 11) (o_ 13)) 0)] 0)
 (.cond (o_ 14)
 .skip
 (.exit 0)))
 (.seq (.block 1 (.seq (.region rg_25_0 4)
 (.cond (o_ 25)
 (.seq (.region [(oP 4 (.mov (.const (.bool false))) 0)] 0)
 .ret)
 .skip)))
 (.region [(oP 15 (.mov (o_ 5)) 0), (oP 16 (.bin false .add (o_ 15) (oc 1)) 0), (oP 5 (.mov (o_ 16)) 0)] 0)))
def rs_25_2 : ACode := (.seq (.region [(oP 4 (.mov (.const (.bool true))) 0)] 0)
 .ret)
def af_25 : AFun := ⟨26, [.inl 4], (.seq (.region [(oP 4 (.mov (.const (.bool false))) 0)] 0)
 (.seq (.seq (.region [(oP 6 (.mov (o_ 0)) 0), (oP 7 (.len false (o_ 6)) 0), (oP 8 (.mov (o_ 1)) 0), (oP 9 (.len false (o_ 8)) 0), (oP 10 (.bin false .neq (o_ 7) (o_ 9)) 0)] 0)
 (.cond (o_ 10)
 (.seq (.region [(oP 4 (.mov (.const (.bool false))) 0)] 0)
 .ret)
 .skip))
 (.seq (.seq (.region [(oP 5 (.mov (oc 0)) 0)] 0)
 (.block 0 (.loop lp_25_1)))
 rs_25_2)))⟩
def rg_42_0 : List AOper := [(oP 15 (.load (some 4) (o_ 4)) 0), (oP 16 (.mov (o_ 1)) 0), (oP 17 (.mov (o_ 2)) 0), (oP 18 (.call 59 [(o_ 15), (o_ 16), (o_ 17)]) 0), (oP 14 (.mov (o_ 18)) 1), (oP 19 (.extract (o_ 14) 0) 1), (oP 20 (.extract (o_ 14) 1) 1), (oP 10 (.mov (o_ 19)) 1), (oP 11 (.mov (o_ 20)) 1)]
def rg_42_1 : List AOper := [(oP 36 (.mov (o_ 12)) 0), (oP 37 (.mov (o_ 13)) 0), (oP 38 (.load (some 4) (o_ 4)) 0), (oP 39 (.mov (o_ 10)) 0), (oP 40 (.mov (o_ 3)) 0), (oP 41 (.mov (o_ 13)) 0), (oP 42 (.call 78 [(o_ 38), (o_ 39), (o_ 40), (o_ 41)]) 0), (oP 43 (.iaddr 1 (o_ 36) (o_ 37)) 1), ⟨none, .store 1 (o_ 43) (o_ 42), none, 1, [], true, []⟩]
def lp_42_2 : ACode := (.seq (.region [(oP 34 (.bin false .lss (o_ 33) (o_ 32)) 0)] 0)
 (.seq (.cond (o_ 34)
 .skip
 (.exit 0))
 (.seq (.block 1 (.seq (.region [(oP 35 (.mov (o_ 33)) 0), (oP 13 (.mov (o_ 35)) 0)] 0)
 (.region rg_42_1 1)))
 (.region [(oP 44 (.bin false .add (o_ 33) (oc 1)) 0), (oP 33 (.mov (o_ 44)) 0)] 0))))
def rs_42_3 : ACode := (.seq (.region [(oP 45 (.mov (o_ 12)) 0), (oP 8 (.mov (o_ 45)) 0), (oP 9 (.mov (oc 0)) 0)] 0)
 .ret)
def af_42 : AFun := ⟨46, [.inl 8, .inl 9], (.seq (.region [(oP 4 (.box 4 (o_ 0)) 0), (oP 8 (.mov (.const (.slice none 0 0))) 1), (oP 9 (.mov (oc 0)) 1)] 1)
 (.seq (.region rg_42_0 1)
 (.seq (.seq (.region [(oP 21 (.mov (o_ 11)) 0), (oP 22 (.bin false .neq (o_ 21) (oc 0)) 0)] 0)
 (.cond (o_ 22)
 (.seq (.region [(oP 23 (.mov (o_ 11)) 0), (oP 8 (.mov (.const (.slice none 0 0))) 0), (oP 9 (.mov (o_ 23)) 0)] 0)
 .ret)
 .skip))
 (.seq (.seq (.region [(oP 24 (.mov (o_ 3)) 0), (oP 25 (.call 49 [(oc 0), (o_ 24), (oc 20)]) 0), (oP 26 (.un .not (o_ 25)) 1)] 1)
 (.cond (o_ 26)
 (.seq (.region [(oP 8 (.mov (.const (.slice none 0 0))) 0), (oP 9 (.mov (oc 3)) 0)] 0)
 .ret)
 .skip))
 (.seq (.region [(oP 27 (.faddr 2 (o_ 4)) 0), (oP 28 (.load none (o_ 27)) 0), (oP 29 (.len false (o_ 28)) 0), (oP 30 (.mkSlice 1 1 [(.val (.int .u8 0))] (o_ 29) (o_ 29)) 0), (oP 12 (.mov (o_ 30)) 1)] 1)
 (.seq (.seq (.region [(oP 31 (.mov (o_ 12)) 0), (oP 32 (.len false (o_ 31)) 0), (oP 33 (.mov (oc 0)) 0)] 0)
 (.block 0 (.loop lp_42_2)))
 rs_42_3))))))⟩
def rg_59_0 : List AOper := [(oP 11 (.load (some 4) (o_ 3)) 0), (oP 12 (.mov (o_ 1)) 0), (oP 13 (.mov (o_ 2)) 0), (oP 14 (.call 57 [(o_ 11), (o_ 12), (o_ 13)]) 0), (oP 10 (.mov (o_ 14)) 1), (oP 15 (.extract (o_ 10) 0) 1), (oP 16 (.extract (o_ 10) 1) 1), (oP 8 (.mov (o_ 15)) 1), (oP 9 (.mov (o_ 16)) 1)]
def af_59 : AFun := ⟨25, [.inl 6, .inl 7], (.seq (.region [(oP 3 (.box 4 (o_ 0)) 0), (oP 6 (.mov (.const (.slice none 0 0))) 1), (oP 7 (.mov (oc 0)) 1)] 1)
 (.seq (.region rg_59_0 1)
 (.seq (.seq (.region [(oP 17 (.mov (o_ 9)) 0), (oP 18 (.bin false .neq (o_ 17) (oc 0)) 0)] 0)
 (.cond (o_ 18)
 (.seq (.region [(oP 19 (.mov (o_ 9)) 0), (oP 6 (.mov (.const (.slice none 0 0))) 0), (oP 7 (.mov (o_ 19)) 0)] 0)
 .ret)
 .skip))
 (.seq (.seq (.region [(oP 20 (.load (some 4) (o_ 3)) 0), (oP 21 (.mov (o_ 8)) 0), (oP 22 (.call 91 [(o_ 20), (o_ 21)]) 0), (oP 23 (.un .not (o_ 22)) 1)] 1)
 (.cond (o_ 23)
 (.seq (.region [(oP 6 (.mov (.const (.slice none 0 0))) 0), (oP 7 (.mov (oc 100)) 0)] 0)
 .ret)
 .skip))
 (.seq (.region [(oP 24 (.mov (o_ 8)) 0), (oP 6 (.mov (o_ 24)) 0), (oP 7 (.mov (oc 0)) 0)] 0)
 .ret)))))⟩
def af_76 : AFun := ⟨8, [.inl 2], (.seq (.region [(oP 2 (.mov (.const (.slice none 0 0))) 0)] 0)
 (.seq (.seq (.region [(oP 3 (.mov (o_ 0)) 0), (oP 4 (.eqNil 0 .eql (o_ 3) (.const (.slice none 0 0))) 0)] 0)
 (.cond (o_ 4)
 (.seq (.region [(oP 2 (.mov (.const (.slice none 0 0))) 0)] 0)
 .ret)
 .skip))
 (.seq (.region [(oP 5 (.bslice 7 0 [(.val (.int .i64 0)), (.val (.int .i64 0)), (.val (.int .i64 0)), (.val (.int .i64 0)), (.val (.int .i64 0)), (.val (.int .i64 0)), (.val (.int .i64 0))] []) 0), (oP 6 (.mov (o_ 0)) 1), (oP 7 (.append 7 (o_ 5) (o_ 6)) 1), (oP 2 (.mov (o_ 7)) 2)] 2)
 .ret)))⟩
def rg_18_0 : List AOper := [(oP 13 (.mov (o_ 1)) 0), (oP 14 (.len false (o_ 13)) 0), (oP 15 (.bin false .leq (o_ 14) (oc 16)) 0), (oP 16 (.mov (o_ 15)) 0), (oG 17 (.mov (o_ 1)) 16 true 0), (oG 18 (.mov (o_ 6)) 16 true 0), (oG 19 (.call 55 [(o_ 17), (o_ 18)]) 16 true 0), (oG 20 (.un .not (o_ 19)) 16 true 1), (oP 21 (.pick (o_ 16) (o_ 20) (.const (.bool false))) 1), (oP 22 (.call 51 [(o_ 21)]) 1), (oP 4 (.mov (o_ 22)) 2)]
def af_18 : AFun := ⟨23, [.inl 4], (.seq (.region [(oP 2 (.box 4 (o_ 0)) 0), (oP 4 (.mov (oc 0)) 1)] 1)
 (.seq (.seq (.region [(oP 7 (.load (some 4) (o_ 2)) 0), (oP 8 (.call 17 [(o_ 7)]) 0), (oP 5 (.mov (o_ 8)) 1)] 1)
 (.seq (.region [(oP 9 (.mov (o_ 5)) 0), (oP 10 (.bin false .neq (o_ 9) (oc 0)) 0)] 0)
 (.cond (o_ 10)
 (.seq (.region [(oP 11 (.mov (o_ 5)) 0), (oP 4 (.mov (o_ 11)) 0)] 0)
 .ret)
 .skip)))
 (.seq (.region [(oP 12 (.mkFn 53 [] [(o_ 2)]) 0), (oP 6 (.mov (o_ 12)) 0)] 0)
 (.seq (.region rg_18_0 2)
 .ret))))⟩
def lp_73_0 : ACode := (.seq (.region [(oP 20 (.bin false .lss (o_ 19) (o_ 18)) 0)] 0)
 (.seq (.cond (o_ 20)
 .skip
 (.exit 0))
 (.seq (.block 1 (.seq (.region [(oP 21 (.mov (o_ 19)) 0), (oP 9 (.mov (o_ 21)) 0)] 0)
 (.seq (.region [(oP 22 (.mov (o_ 8)) 0), (oP 23 (.mov (o_ 1)) 0), (oP 24 (.len false (o_ 23)) 0), (oP 25 (.mov (o_ 9)) 0), (oP 26 (.iaddr 8 (o_ 22) (o_ 24)) 0), (oP 27 (.faddr 7 (o_ 26)) 0), ⟨none, .store 1 (o_ 27) (o_ 25), none, 0, [], true, []⟩] 0)
 (.seq (.region [(oP 28 (.load (some 4) (o_ 3)) 0), (oP 29 (.mov (o_ 8)) 0), (oP 30 (.call 91 [(o_ 28), (o_ 29)]) 0)] 1)
 (.cond (o_ 30)
 (.region [(oP 31 (.mov (o_ 7)) 0), (oP 32 (.mov (o_ 9)) 0), (oP 33 (.bslice 1 1 [(.val (.int .i64 0))] [(0, (o_ 32))]) 0), (oP 34 (.append 1 (o_ 31) (o_ 33)) 1), (oP 7 (.mov (o_ 34)) 2)] 2)
 .skip)))))
 (.region [(oP 35 (.bin false .add (o_ 19) (oc 1)) 0), (oP 19 (.mov (o_ 35)) 0)] 0))))
def rs_73_1 : ACode := (.seq (.region [(oP 36 (.mov (o_ 7)) 0), (oP 6 (.mov (o_ 36)) 0)] 0)
 .ret)
def af_73 : AFun := ⟨37, [.inl 6], (.seq (.region [(oP 3 (.box 4 (o_ 0)) 0), (oP 5 (.box 7 (o_ 2)) 1), (oP 6 (.mov (.const (.slice none 0 0))) 2)] 2)
 (.seq (.region [(oP 7 (.mov (.const (.slice none 0 0))) 0)] 0)
 (.seq (.region [(oP 10 (.mov (o_ 1)) 0), ⟨(some 11), .call 95 [(o_ 10)], none, 0, [1, 2], false, []⟩, ⟨(some 12), .load (some 7) (o_ 5), none, 1, [0], false, []⟩, (oP 13 (.build [(.val (.int .i64 0)), (.val (.int .i64 0)), (.val (.int .i64 0)), (.val (.int .i64 0)), (.val (.int .i64 0)), (.val (.int .i64 0)), (.val (.int .i64 0)), (.val (.int .i64 0))] [(0, 7, (o_ 12))]) 2), ⟨(some 14), .bslice 8 1 [(.val (.int .i64 0)), (.val (.int .i64 0)), (.val (.int .i64 0)), (.val (.int .i64 0)), (.val (.int .i64 0)), (.val (.int .i64 0)), (.val (.int .i64 0)), (.val (.int .i64 0))] [(0, (o_ 13))], none, 2, [0], false, []⟩, (oP 15 (.append 8 (o_ 11) (o_ 14)) 3), (oP 8 (.mov (o_ 15)) 4)] 4)
 (.seq (.seq (.region [(oP 16 (.faddr 2 (o_ 3)) 0), (oP 17 (.load none (o_ 16)) 0), (oP 18 (.len false (o_ 17)) 0), (oP 19 (.mov (oc 0)) 0)] 0)
 (.block 0 (.loop lp_73_0)))
 rs_73_1))))⟩
def rg_19_0 : List AOper := [(oP 4 (.faddr 2 (o_ 1)) 0), (oP 5 (.load none (o_ 4)) 0), (oP 6 (.len false (o_ 5)) 0), (oP 7 (.call 56 [(o_ 6), (oc 1), (oc 96)]) 0), (oP 8 (.un .not (o_ 7)) 1), (oP 9 (.mov (o_ 8)) 1), (oG 10 (.faddr 3 (o_ 1)) 9 false 1), (oG 11 (.load none (o_ 10)) 9 false 1), (oG 12 (.len false (o_ 11)) 9 false 1), (oG 13 (.faddr 2 (o_ 1)) 9 false 1), (oG 14 (.load none (o_ 13)) 9 false 1), (oG 15 (.len false (o_ 14)) 9 false 1), (oG 16 (.bin false .neq (o_ 12) (o_ 15)) 9 false 1), (oP 17 (.pick (o_ 9) (.const (.bool true)) (o_ 16)) 1), (oP 18 (.mov (o_ 17)) 1), (oG 19 (.faddr 0 (o_ 1)) 18 false 1), (oG 20 (.load none (o_ 19)) 18 false 1), (oG 21 (.call 56 [(o_ 20), (oc 1), (oc 4)]) 18 false 1), (oG 22 (.un .not (o_ 21)) 18 false 2), (oP 23 (.pick (o_ 18) (.const (.bool true)) (o_ 22)) 2), (oP 24 (.mov (o_ 23)) 2), (oG 25 (.faddr 1 (o_ 1)) 24 false 2), (oG 26 (.load none (o_ 25)) 24 false 2), (oG 27 (.call 56 [(o_ 26), (oc 0), (oc 6)]) 24 false 2), (oG 28 (.un .not (o_ 27)) 24 false 3), (oP 29 (.pick (o_ 24) (.const (.bool true)) (o_ 28)) 3)]
def rg_19_1 : List AOper := [(oP 37 (.faddr 2 (o_ 1)) 0), (oP 38 (.load none (o_ 37)) 0), (oP 39 (.mov (o_ 3)) 0), (oP 40 (.iaddr 1 (o_ 38) (o_ 39)) 0), (oP 41 (.load none (o_ 40)) 0), (oP 42 (.call 56 [(o_ 41), (oc 0), (oc 1000)]) 0), (oP 43 (.un .not (o_ 42)) 1), (oP 44 (.mov (o_ 43)) 1), (oG 45 (.faddr 3 (o_ 1)) 44 false 1), (oG 46 (.load none (o_ 45)) 44 false 1), (oG 47 (.mov (o_ 3)) 44 false 1), (oG 48 (.iaddr 1 (o_ 46) (o_ 47)) 44 false 1), (oG 49 (.load none (o_ 48)) 44 false 1), (oG 50 (.call 56 [(o_ 49), (oc 0), (oc 1000)]) 44 false 1), (oG 51 (.un .not (o_ 50)) 44 false 2), (oP 52 (.pick (o_ 44) (.const (.bool true)) (o_ 51)) 2)]
def lp_19_2 : ACode := (.seq (.seq (.region [(oP 30 (.mov (o_ 3)) 0), (oP 31 (.faddr 2 (o_ 1)) 0), (oP 32 (.load none (o_ 31)) 0), (oP 33 (.len false (o_ 32)) 0), (oP 34 (.bin false .lss (o_ 30) (o_ 33)) 0)] 0)
 (.cond (o_ 34)
 .skip
 (.exit 0)))
 (.seq (.block 1 (.seq (.region rg_19_1 2)
 (.cond (o_ 52)
 (.seq (.region [(oP 2 (.mov (.const (.bool false))) 0)] 0)
 .ret)
 .skip)))
 (.region [(oP 35 (.mov (o_ 3)) 0), (oP 36 (.bin false .add (o_ 35) (oc 1)) 0), (oP 3 (.mov (o_ 36)) 0)] 0)))
def rs_19_3 : ACode := (.seq (.region [(oP 2 (.mov (.const (.bool true))) 0)] 0)
 .ret)
def af_19 : AFun := ⟨53, [.inl 2], (.seq (.region [(oP 1 (.box 4 (o_ 0)) 0), (oP 2 (.mov (.const (.bool false))) 1)] 1)
 (.seq (.seq (.region rg_19_0 3)
 (.cond (o_ 29)
 (.seq (.region [(oP 2 (.mov (.const (.bool false))) 0)] 0)
 .ret)
 .skip))
 (.seq (.seq (.region [(oP 3 (.mov (oc 0)) 0)] 0)
 (.block 0 (.loop lp_19_2)))
 rs_19_3)))⟩
def rg_56_0 : List AOper := [(oP 7 (.mov (o_ 0)) 0), (oP 8 (.mov (o_ 1)) 0), (oP 9 (.bin false .geq (o_ 7) (o_ 8)) 0), (oP 10 (.mov (o_ 9)) 0), (oG 11 (.mov (o_ 0)) 10 true 0), (oG 12 (.mov (o_ 2)) 10 true 0), (oG 13 (.bin false .leq (o_ 11) (o_ 12)) 10 true 0), (oP 14 (.pick (o_ 10) (o_ 13) (.const (.bool false))) 0), (oP 6 (.mov (o_ 14)) 0)]
def af_56 : AFun := ⟨15, [.inl 6], (.seq (.region [(oP 6 (.mov (.const (.bool false))) 0)] 0)
 (.seq (.region rg_56_0 0)
 .ret))⟩
def rg_68_0 : List AOper := [(oP 7 (.mov (o_ 2)) 0), (oP 8 (.mov (o_ 1)) 0), (oP 9 (.bin false .geq (o_ 7) (o_ 8)) 0), (oP 10 (.mov (o_ 9)) 0), (oG 11 (.mov (o_ 2)) 10 true 0), (oG 12 (.mov (o_ 1)) 10 true 0), (oG 13 (.bin false .sub (o_ 11) (o_ 12)) 10 true 0), (oG 14 (.faddr 2 (o_ 3)) 10 true 0), (oG 15 (.load none (o_ 14)) 10 true 0), (oG 16 (.bin false .lss (o_ 13) (o_ 15)) 10 true 0), (oP 17 (.pick (o_ 10) (o_ 16) (.const (.bool false))) 0), (oP 6 (.mov (o_ 17)) 0)]
def af_68 : AFun := ⟨18, [.inl 6], (.seq (.region [(oP 3 (.box 7 (o_ 0)) 0), (oP 6 (.mov (.const (.bool false))) 1)] 1)
 (.seq (.region rg_68_0 0)
 .ret))⟩
def rg_69_0 : List AOper := [(oP 14 (.mov (o_ 1)) 0), (oP 15 (.mov (o_ 3)) 0), ⟨(some 16), .iaddr 7 (o_ 14) (o_ 15), none, 0, [2, 3, 4, 5], false, []⟩, ⟨(some 17), .load (some 7) (o_ 16), none, 1, [2, 3, 4, 5], false, []⟩, (oP 18 (.mov (o_ 1)) 2), (oP 19 (.mov (o_ 4)) 2), ⟨(some 20), .iaddr 7 (o_ 18) (o_ 19), none, 2, [0, 1, 4, 5, 6, 4], false, []⟩, ⟨(some 21), .load (some 7) (o_ 20), none, 3, [0, 1, 4, 5, 6, 4], false, []⟩, ⟨(some 11), .zero [(.val (.int .i64 0)), (.val (.int .i64 0)), (.val (.int .i64 0)), (.val (.int .i64 0)), (.val (.int .i64 0)), (.val (.int .i64 0)), (.val (.int .i64 0))], none, 4, [0, 1, 2, 3, 5], false, []⟩, ⟨(some 12), .zero [(.val (.int .i64 0)), (.val (.int .i64 0)), (.val (.int .i64 0)), (.val (.int .i64 0)), (.val (.int .i64 0)), (.val (.int .i64 0)), (.val (.int .i64 0))], none, 5, [0, 1, 2, 3, 4], false, []⟩, ⟨none, .store 7 (o_ 11) (o_ 17), none, 6, [2, 3], false, [4]⟩, ⟨none, .store 7 (o_ 12) (o_ 21), none, 7, [], true, []⟩]
def rg_69_1 : List AOper := [⟨(some 46), .load (some 7) (o_ 11), none, 0, [1, 2], false, []⟩, (oP 47 (.mov (o_ 2)) 1), (oP 48 (.mov (o_ 3)) 1), ⟨(some 49), .iaddr 1 (o_ 47) (o_ 48), none, 1, [0], false, []⟩, ⟨(some 50), .load none (o_ 49), none, 2, [0], false, []⟩, (oP 51 (.mov (o_ 13)) 3), (oP 52 (.call 68 [(o_ 46), (o_ 50), (o_ 51)]) 3), (oP 53 (.mov (o_ 52)) 4), (oG 54 (.mov (o_ 1)) 53 true 4), (oG 55 (.mov (o_ 4)) 53 true 4), ⟨(some 56), .iaddr 7 (o_ 54) (o_ 55), (some ((some 53), true)), 4, [6, 7], false, []⟩, ⟨(some 57), .load (some 7) (o_ 56), (some ((some 53), true)), 5, [6, 7], false, []⟩, (oG 58 (.mov (o_ 2)) 53 true 6), (oG 59 (.mov (o_ 4)) 53 true 6), ⟨(some 60), .iaddr 1 (o_ 58) (o_ 59), (some ((some 53), true)), 6, [4, 5], false, []⟩, ⟨(some 61), .load none (o_ 60), (some ((some 53), true)), 7, [4, 5], false, []⟩, (oG 62 (.mov (o_ 13)) 53 true 8), (oG 63 (.call 68 [(o_ 57), (o_ 61), (o_ 62)]) 53 true 8), (oP 64 (.pick (o_ 53) (o_ 63) (.const (.bool false))) 9), (oP 65 (.mov (o_ 64)) 9), (oG 66 (.mov (o_ 1)) 65 false 9), (oG 67 (.mov (o_ 3)) 65 false 9), ⟨(some 68), .iaddr 7 (o_ 66) (o_ 67), (some ((some 65), false)), 9, [11, 12], false, []⟩, ⟨(some 69), .load (some 7) (o_ 68), (some ((some 65), false)), 10, [11, 12], false, []⟩, (oG 70 (.mov (o_ 2)) 65 false 11), (oG 71 (.mov (o_ 3)) 65 false 11), ⟨(some 72), .iaddr 1 (o_ 70) (o_ 71), (some ((some 65), false)), 11, [9, 10], false, []⟩, ⟨(some 73), .load none (o_ 72), (some ((some 65), false)), 12, [9, 10], false, []⟩, (oG 74 (.mov (o_ 13)) 65 false 13), (oG 75 (.call 68 [(o_ 69), (o_ 73), (o_ 74)]) 65 false 13), (oG 76 (.mov (o_ 75)) 65 false 14), ⟨(some 77), .load (some 7) (o_ 12), (some ((some 76), true)), 14, [15, 16], false, []⟩, (oG 78 (.mov (o_ 2)) 76 true 15), (oG 79 (.mov (o_ 4)) 76 true 15), ⟨(some 80), .iaddr 1 (o_ 78) (o_ 79), (some ((some 76), true)), 15, [14], false, []⟩, ⟨(some 81), .load none (o_ 80), (some ((some 76), true)), 16, [14], false, []⟩, (oG 82 (.mov (o_ 13)) 76 true 17), (oG 83 (.call 68 [(o_ 77), (o_ 81), (o_ 82)]) 76 true 17), (oG 84 (.pick (o_ 76) (o_ 83) (.const (.bool false))) 65 false 18), (oP 85 (.pick (o_ 65) (.const (.bool true)) (o_ 84)) 18)]
def lp_69_2 : ACode := (.seq (.seq (.region [(oP 39 (.mov (o_ 13)) 0), (oP 40 (.faddr 2 (o_ 5)) 0), (oP 41 (.load none (o_ 40)) 0), (oP 42 (.len false (o_ 41)) 0), (oP 43 (.bin false .lss (o_ 39) (o_ 42)) 0)] 0)
 (.cond (o_ 43)
 .skip
 (.exit 0)))
 (.seq (.block 1 (.seq (.region rg_69_1 18)
 (.cond (o_ 85)
 (.seq (.region [(oP 10 (.mov (.const (.bool true))) 0)] 0)
 .ret)
 .skip)))
 (.region [(oP 44 (.mov (o_ 13)) 0), (oP 45 (.bin false .add (o_ 44) (oc 1)) 0), (oP 13 (.mov (o_ 45)) 0)] 0)))
def rs_69_3 : ACode := (.seq (.region [(oP 10 (.mov (.const (.bool false))) 0)] 0)
 .ret)
def af_69 : AFun := ⟨86, [.inl 10], (.seq (.region [(oP 5 (.box 4 (o_ 0)) 0), (oP 10 (.mov (.const (.bool false))) 1)] 1)
 (.seq (.region rg_69_0 8)
 (.seq (.seq (.region [(oP 22 (.faddr 0 (o_ 11)) 0), (oP 23 (.load none (o_ 22)) 0), (oP 24 (.faddr 0 (o_ 12)) 0), (oP 25 (.load none (o_ 24)) 0), (oP 26 (.bin false .neq (o_ 23) (o_ 25)) 0)] 0)
 (.cond (o_ 26)
 (.seq (.region [(oP 27 (.faddr 2 (o_ 11)) 0), (oP 28 (.load none (o_ 27)) 0), (oP 29 (.faddr 1 (o_ 5)) 0), (oP 30 (.load none (o_ 29)) 0), (oP 31 (.bin false .add (o_ 28) (o_ 30)) 0), (oP 32 (.faddr 2 (o_ 11)) 0), ⟨none, .store 1 (o_ 32) (o_ 31), none, 0, [], true, []⟩] 0)
 (.region [(oP 33 (.faddr 2 (o_ 12)) 0), (oP 34 (.load none (o_ 33)) 0), (oP 35 (.faddr 1 (o_ 5)) 0), (oP 36 (.load none (o_ 35)) 0), (oP 37 (.bin false .add (o_ 34) (o_ 36)) 0), (oP 38 (.faddr 2 (o_ 12)) 0), ⟨none, .store 1 (o_ 38) (o_ 37), none, 0, [], true, []⟩] 0))
 .skip))
 (.seq (.seq (.region [(oP 13 (.mov (oc 0)) 0)] 0)
 (.block 0 (.loop lp_69_2)))
 rs_69_3))))⟩
def rg_31_0 : List AOper := [(oP 15 (.mov (o_ 0)) 0), (oP 16 (.mov (o_ 8)) 0), ⟨(some 17), .iaddr 7 (o_ 15) (o_ 16), none, 0, [2, 3], false, []⟩, ⟨(some 18), .load (some 7) (o_ 17), none, 1, [2, 3], false, []⟩, (oP 19 (.mov (o_ 1)) 2), (oP 20 (.mov (o_ 8)) 2), ⟨(some 21), .iaddr 1 (o_ 19) (o_ 20), none, 2, [0, 1], false, []⟩, ⟨(some 22), .load none (o_ 21), none, 3, [0, 1], false, []⟩, (oP 23 (.mov (o_ 2)) 4), (oP 24 (.call 70 [(o_ 18), (o_ 22), (o_ 23)]) 4)]
def lp_31_1 : ACode := (.seq (.seq (.region [(oP 9 (.mov (o_ 8)) 0), (oP 10 (.mov (o_ 0)) 0), (oP 11 (.len false (o_ 10)) 0), (oP 12 (.bin false .lss (o_ 9) (o_ 11)) 0)] 0)
 (.cond (o_ 12)
 .skip
 (.exit 0)))
 (.seq (.block 1 (.seq (.region rg_31_0 5)
 (.cond (o_ 24)
 (.region [(oP 25 (.mov (o_ 7)) 0), (oP 26 (.bin false .add (o_ 25) (oc 1)) 0), (oP 7 (.mov (o_ 26)) 0)] 0)
 .skip)))
 (.region [(oP 13 (.mov (o_ 8)) 0), (oP 14 (.bin false .add (o_ 13) (oc 1)) 0), (oP 8 (.mov (o_ 14)) 0)] 0)))
def rs_31_2 : ACode := (.seq (.region [(oP 27 (.mov (o_ 7)) 0), (oP 6 (.mov (o_ 27)) 0)] 0)
 .ret)
def af_31 : AFun := ⟨28, [.inl 6], (.seq (.region [(oP 6 (.mov (oc 0)) 0)] 0)
 (.seq (.region [(oP 7 (.mov (oc 0)) 0)] 0)
 (.seq (.seq (.region [(oP 8 (.mov (oc 0)) 0)] 0)
 (.block 0 (.loop lp_31_1)))
 rs_31_2)))⟩
def rg_57_0 : List AOper := [(oP 33 (.mov (o_ 9)) 0), (oP 34 (.mov (o_ 10)) 0), ⟨(some 35), .load (some 7) (o_ 11), none, 0, [1, 2], false, []⟩, (oP 36 (.mov (o_ 2)) 1), (oP 37 (.mov (o_ 10)) 1), ⟨(some 38), .iaddr 1 (o_ 36) (o_ 37), none, 1, [0], false, []⟩, ⟨(some 39), .load none (o_ 38), none, 2, [0], false, []⟩, (oP 40 (.build [(.val (.int .i64 0)), (.val (.int .i64 0)), (.val (.int .i64 0)), (.val (.int .i64 0)), (.val (.int .i64 0)), (.val (.int .i64 0)), (.val (.int .i64 0)), (.val (.int .i64 0))] [(0, 7, (o_ 35)), (7, 1, (o_ 39))]) 3), (oP 41 (.iaddr 8 (o_ 33) (o_ 34)) 3), ⟨none, .store 8 (o_ 41) (o_ 40), none, 4, [], true, []⟩]
def lp_57_1 : ACode := (.seq (.region [(oP 29 (.bin false .lss (o_ 28) (o_ 27)) 0)] 0)
 (.seq (.cond (o_ 29)
 .skip
 (.exit 0))
 (.seq (.block 1 (.seq (.region [(oP 30 (.mov (o_ 28)) 0), (oP 31 (.iaddr 7 (o_ 26) (o_ 28)) 0), (oP 32 (.load (some 7) (o_ 31)) 0), (oP 11 (.zero [(.val (.int .i64 0)), (.val (.int .i64 0)), (.val (.int .i64 0)), (.val (.int .i64 0)), (.val (.int .i64 0)), (.val (.int .i64 0)), (.val (.int .i64 0))]) 0), (oP 10 (.mov (o_ 30)) 1), ⟨none, .store 7 (o_ 11) (o_ 32), none, 1, [], true, []⟩] 1)
 (.region rg_57_0 5)))
 (.region [(oP 42 (.bin false .add (o_ 28) (oc 1)) 0), (oP 28 (.mov (o_ 42)) 0)] 0))))
def rs_57_2 : ACode := (.seq (.region [(oP 43 (.mov (o_ 9)) 0), (oP 6 (.mov (o_ 43)) 0), (oP 7 (.mov (oc 0)) 0)] 0)
 .ret)
def af_57 : AFun := ⟨44, [.inl 6, .inl 7], (.seq (.region [(oP 3 (.box 4 (o_ 0)) 0), (oP 6 (.mov (.const (.slice none 0 0))) 1), (oP 7 (.mov (oc 0)) 1)] 1)
 (.seq (.seq (.region [(oP 12 (.load (some 4) (o_ 3)) 0), (oP 13 (.mov (o_ 1)) 0), (oP 14 (.call 18 [(o_ 12), (o_ 13)]) 0), (oP 8 (.mov (o_ 14)) 1)] 1)
 (.seq (.region [(oP 15 (.mov (o_ 8)) 0), (oP 16 (.bin false .neq (o_ 15) (oc 0)) 0)] 0)
 (.cond (o_ 16)
 (.seq (.region [(oP 17 (.mov (o_ 8)) 0), (oP 6 (.mov (.const (.slice none 0 0))) 0), (oP 7 (.mov (o_ 17)) 0)] 0)
 .ret)
 .skip)))
 (.seq (.seq (.region [(oP 18 (.mov (o_ 2)) 0), (oP 19 (.len false (o_ 18)) 0), (oP 20 (.mov (o_ 1)) 0), (oP 21 (.len false (o_ 20)) 0), (oP 22 (.bin false .neq (o_ 19) (o_ 21)) 0)] 0)
 (.cond (o_ 22)
 (.seq (.region [(oP 6 (.mov (.const (.slice none 0 0))) 0), (oP 7 (.mov (oc 5)) 0)] 0)
 .ret)
 .skip))
 (.seq (.region [(oP 23 (.mov (o_ 1)) 0), (oP 24 (.len false (o_ 23)) 0), (oP 25 (.mkSlice 8 64 [(.val (.int .i64 0)), (.val (.int .i64 0)), (.val (.int .i64 0)), (.val (.int .i64 0)), (.val (.int .i64 0)), (.val (.int .i64 0)), (.val (.int .i64 0)), (.val (.int .i64 0))] (o_ 24) (o_ 24)) 0), (oP 9 (.mov (o_ 25)) 1)] 1)
 (.seq (.seq (.region [(oP 26 (.mov (o_ 1)) 0), (oP 27 (.len false (o_ 26)) 0), (oP 28 (.mov (oc 0)) 0)] 0)
 (.block 0 (.loop lp_57_1)))
 rs_57_2)))))⟩
def af_71 : AFun := ⟨3, [.inl 2], (.seq (.region [(oP 1 (.box 8 (o_ 0)) 0), (oP 2 (.mov (.const (.bool false))) 1)] 1)
 (.seq (.region [(oP 2 (.mov (.const (.bool true))) 0)] 0)
 .ret))⟩
def lp_72_0 : ACode := (.seq (.region [(oP 25 (.bin false .lss (o_ 24) (o_ 23)) 0)] 0)
 (.seq (.cond (o_ 25)
 .skip
 (.exit 0))
 (.seq (.block 1 (.seq (.region [(oP 26 (.mov (o_ 24)) 0), (oP 27 (.iaddr 8 (o_ 22) (o_ 24)) 0), (oP 28 (.load (some 8) (o_ 27)) 0), (oP 13 (.zero [(.val (.int .i64 0)), (.val (.int .i64 0)), (.val (.int .i64 0)), (.val (.int .i64 0)), (.val (.int .i64 0)), (.val (.int .i64 0)), (.val (.int .i64 0)), (.val (.int .i64 0))]) 0), (oP 12 (.mov (o_ 26)) 1), ⟨none, .store 8 (o_ 13) (o_ 28), none, 1, [], true, []⟩] 1)
 (.seq (.region [(oP 29 (.mov (o_ 2)) 0), (oP 30 (.load (some 8) (o_ 13)) 0), (oP 31 (.callv (o_ 29) [(o_ 30)]) 0)] 1)
 (.cond (o_ 31)
 (.region [(oP 32 (.faddr 5 (o_ 11)) 0), (oP 33 (.load none (o_ 32)) 0), (oP 34 (.mov (o_ 12)) 0), (oP 35 (.bslice 1 1 [(.val (.int .i64 0))] [(0, (o_ 34))]) 0), (oP 36 (.append 1 (o_ 33) (o_ 35)) 1), (oP 37 (.faddr 5 (o_ 11)) 2), ⟨none, .store 1 (o_ 37) (o_ 36), none, 2, [], true, []⟩] 2)
 .skip))))
 (.region [(oP 38 (.bin false .add (o_ 24) (oc 1)) 0), (oP 24 (.mov (o_ 38)) 0)] 0))))
def rg_72_1 : List AOper := [(oP 47 (.load (some 4) (o_ 4)) 0), (oP 48 (.mov (o_ 14)) 0), (oP 49 (.call 91 [(o_ 47), (o_ 48)]) 0), (oP 50 (.un .not (o_ 49)) 1), (oP 51 (.mov (o_ 50)) 1), (oG 52 (.mov (o_ 14)) 51 false 1), (oG 53 (.mov (o_ 3)) 51 false 1), (oG 54 (.call 97 [(o_ 11), (o_ 52), (o_ 53)]) 51 false 1), (oG 55 (.un .not (o_ 54)) 51 false 2), (oP 56 (.pick (o_ 51) (.const (.bool true)) (o_ 55)) 2)]
def lp_72_2 : ACode := (.seq (.region [(oP 70 (.bin false .lss (o_ 69) (o_ 68)) 0)] 0)
 (.seq (.cond (o_ 70)
 .skip
 (.exit 2))
 (.seq (.block 3 (.seq (.region [(oP 71 (.mov (o_ 69)) 0), (oP 72 (.iaddr 8 (o_ 67) (o_ 69)) 0), (oP 73 (.load (some 8) (o_ 72)) 0), (oP 17 (.zero [(.val (.int .i64 0)), (.val (.int .i64 0)), (.val (.int .i64 0)), (.val (.int .i64 0)), (.val (.int .i64 0)), (.val (.int .i64 0)), (.val (.int .i64 0)), (.val (.int .i64 0))]) 0), (oP 16 (.mov (o_ 71)) 1), ⟨none, .store 8 (o_ 17) (o_ 73), none, 1, [], true, []⟩] 1)
 (.region [(oP 74 (.mov (o_ 15)) 0), (oP 75 (.mov (o_ 16)) 0), (oP 76 (.faddr 7 (o_ 17)) 0), (oP 77 (.load none (o_ 76)) 0), (oP 78 (.iaddr 1 (o_ 74) (o_ 75)) 0), ⟨none, .store 1 (o_ 78) (o_ 77), none, 0, [], true, []⟩] 0)))
 (.region [(oP 79 (.bin false .add (o_ 69) (oc 1)) 0), (oP 69 (.mov (o_ 79)) 0)] 0))))
def rs_72_3 : ACode := (.seq (.region [(oP 80 (.mov (o_ 15)) 0), (oP 81 (.faddr 10 (o_ 11)) 0), (oP 82 (.load none (o_ 81)) 1), (oP 8 (.mov (o_ 80)) 2), (oP 9 (.mov (o_ 82)) 2), (oP 10 (.mov (oc 0)) 2)] 2)
 .ret)
def rs_72_4 : ACode := (.seq (.seq (.region [(oP 39 (.faddr 5 (o_ 11)) 0), (oP 40 (.load none (o_ 39)) 0), (oP 41 (.len false (o_ 40)) 0), (oP 42 (.bin false .gtr (o_ 41) (oc 4)) 0)] 0)
 (.cond (o_ 42)
 (.seq (.region [(oP 8 (.mov (.const (.slice none 0 0))) 0), (oP 9 (.mov (oc 0)) 0), (oP 10 (.mov (oc 5)) 0)] 0)
 .ret)
 .skip))
 (.seq (.region [(oP 43 (.mov (o_ 1)) 0), (oP 44 (.call 95 [(o_ 43)]) 0), (oP 45 (.mov (o_ 2)) 1), (oP 46 (.call 96 [(o_ 44), (o_ 45)]) 1), (oP 14 (.mov (o_ 46)) 2)] 2)
 (.seq (.seq (.region rg_72_1 2)
 (.cond (o_ 56)
 (.seq (.region [(oP 8 (.mov (.const (.slice none 0 0))) 0), (oP 9 (.mov (oc 0)) 0), (oP 10 (.mov (oc 101)) 0)] 0)
 .ret)
 .skip))
 (.seq (.region [(oP 57 (.mov (o_ 14)) 0), (oP 58 (.call 60 [(o_ 57)]) 0), (oP 59 (.call 98 [(o_ 11), (oc 0), (o_ 58)]) 1)] 2)
 (.seq (.seq (.region [(oP 60 (.faddr 9 (o_ 11)) 0), (oP 61 (.load none (o_ 60)) 0), (oP 62 (.eqNil 0 .eql (o_ 61) (.const (.slice none 0 0))) 0)] 0)
 (.cond (o_ 62)
 (.seq (.region [(oP 8 (.mov (.const (.slice none 0 0))) 0), (oP 9 (.mov (oc 0)) 0), (oP 10 (.mov (oc 101)) 0)] 0)
 .ret)
 .skip))
 (.seq (.region [(oP 63 (.mov (o_ 1)) 0), (oP 64 (.len false (o_ 63)) 0), (oP 65 (.mkSlice 1 8 [(.val (.int .i64 0))] (o_ 64) (o_ 64)) 0), (oP 15 (.mov (o_ 65)) 1)] 1)
 (.seq (.seq (.region [(oP 66 (.faddr 9 (o_ 11)) 0), (oP 67 (.load none (o_ 66)) 0), (oP 68 (.len false (o_ 67)) 0), (oP 69 (.mov (oc 0)) 0)] 0)
 (.block 2 (.loop lp_72_2)))
 rs_72_3)))))))
def af_72 : AFun := ⟨83, [.inl 8, .inl 9, .inl 10], (.seq (.region [(oP 4 (.box 4 (o_ 0)) 0), (oP 8 (.mov (.const (.slice none 0 0))) 1), (oP 9 (.mov (oc 0)) 1), (oP 10 (.mov (oc 0)) 1)] 1)
 (.seq (.region [⟨(some 18), .load (some 4) (o_ 4), none, 0, [1, 2], false, []⟩, (oP 19 (.mov (o_ 1)) 1), ⟨(some 20), .call 95 [(o_ 19)], none, 1, [0, 2], false, []⟩, (oP 21 (.build [(.val (.int .i64 0)), (.val (.int .i64 0)), (.val (.slice none 0 0)), (.val (.slice none 0 0)), (.val (.slice none 0 0)), (.val (.slice none 0 0)), (.val (.slice none 0 0)), (.val (.slice none 0 0)), (.val (.slice none 0 0)), (.val (.slice none 0 0)), (.val (.int .i64 0))] [(0, 4, (o_ 18)), (4, 1, (o_ 20))]) 2), ⟨(some 11), .zero [(.val (.int .i64 0)), (.val (.int .i64 0)), (.val (.slice none 0 0)), (.val (.slice none 0 0)), (.val (.slice none 0 0)), (.val (.slice none 0 0)), (.val (.slice none 0 0)), (.val (.slice none 0 0)), (.val (.slice none 0 0)), (.val (.slice none 0 0)), (.val (.int .i64 0))], none, 2, [0, 1], false, []⟩, ⟨none, .store 11 (o_ 11) (o_ 21), none, 3, [], true, []⟩] 4)
 (.seq (.seq (.region [(oP 22 (.mov (o_ 1)) 0), (oP 23 (.len false (o_ 22)) 0), (oP 24 (.mov (oc 0)) 0)] 0)
 (.block 0 (.loop lp_72_0)))
 rs_72_4)))⟩
def lp_58_0 : ACode := (.seq (.region [(oP 22 (.bin false .lss (o_ 21) (o_ 20)) 0)] 0)
 (.seq (.cond (o_ 22)
 .skip
 (.exit 0))
 (.seq (.block 1 (.seq (.region [(oP 23 (.iaddr 1 (o_ 19) (o_ 21)) 0), (oP 24 (.load none (o_ 23)) 0), (oP 9 (.mov (o_ 24)) 0)] 0)
 (.seq (.region [(oP 25 (.mov (o_ 9)) 0), (oP 26 (.callv (o_ 25) []) 0), (oP 10 (.zero [(.val (.int .u8 0)), (.val (.int .i64 0)), (.val (.int .i64 0)), (.val (.int .i64 0))]) 1), ⟨none, .store 4 (o_ 10) (o_ 26), none, 2, [], true, []⟩] 2)
 (.seq (.region [(oP 27 (.faddr 0 (o_ 10)) 0), (oP 28 (.load none (o_ 27)) 0), (oP 29 (.bin false .neq (o_ 28) (.const (.int .u8 0))) 0)] 0)
 (.cond (o_ 29)
 (.seq (.region [(oP 30 (.load (some 4) (o_ 10)) 0), ⟨none, .store 4 (o_ 4) (o_ 30), none, 0, [], true, []⟩] 0)
 .ret)
 .skip)))))
 (.region [(oP 31 (.bin false .add (o_ 21) (oc 1)) 0), (oP 21 (.mov (o_ 31)) 0)] 0))))
def rs_58_1 : ACode := (.seq (.region [(oP 32 (.build [(.val (.int .u8 0)), (.val (.int .i64 0)), (.val (.int .i64 0)), (.val (.int .i64 0))] []) 0), ⟨none, .store 4 (o_ 4) (o_ 32), none, 0, [], true, []⟩] 0)
 .ret)
def af_58 : AFun := ⟨33, [.inr (4, (some 4))], (.seq (.region [(oP 2 (.box 4 (o_ 0)) 0), (oP 3 (.box 1 (o_ 1)) 1), (oP 4 (.zero [(.val (.int .u8 0)), (.val (.int .i64 0)), (.val (.int .i64 0)), (.val (.int .i64 0))]) 2)] 3)
 (.seq (.region [(oP 11 (.mkFn 80 [] [(o_ 2)]) 0), (oP 5 (.zero [(.val .nilFunc)]) 0), ⟨none, .store 1 (o_ 5) (o_ 11), none, 1, [], true, []⟩] 1)
 (.seq (.region [(oP 12 (.mkFn 81 [] [(o_ 2)]) 0), (oP 6 (.zero [(.val .nilFunc)]) 0), ⟨none, .store 1 (o_ 6) (o_ 12), none, 1, [], true, []⟩] 1)
 (.seq (.region [(oP 13 (.mkFn 82 [] [(o_ 3)]) 0), (oP 14 (.mkFn 84 [] [(o_ 3), (o_ 5)]) 0), (oP 15 (.mkFn 86 [] [(o_ 3), (o_ 6)]) 0), (oP 16 (.mkFn 87 [] [(o_ 2), (o_ 3)]) 0), (oP 17 (.mkFn 89 [] [(o_ 2), (o_ 3)]) 0), (oP 18 (.bslice 1 5 [(.val .nilFunc)] [(0, (o_ 13)), (1, (o_ 14)), (2, (o_ 15)), (3, (o_ 16)), (4, (o_ 17))]) 0), (oP 7 (.mov (o_ 18)) 1)] 1)
 (.seq (.seq (.region [(oP 19 (.mov (o_ 7)) 0), (oP 20 (.len false (o_ 19)) 0), (oP 21 (.mov (oc 0)) 0)] 0)
 (.block 0 (.loop lp_58_0)))
 rs_58_1)))))⟩
def rg_49_0 : List AOper := [(oP 7 (.mov (o_ 0)) 0), (oP 8 (.mov (o_ 1)) 0), (oP 9 (.bin false .leq (o_ 7) (o_ 8)) 0), (oP 10 (.mov (o_ 9)) 0), (oG 11 (.mov (o_ 1)) 10 true 0), (oG 12 (.mov (o_ 2)) 10 true 0), (oG 13 (.bin false .leq (o_ 11) (o_ 12)) 10 true 0), (oP 14 (.pick (o_ 10) (o_ 13) (.const (.bool false))) 0), (oP 6 (.mov (o_ 14)) 0)]
def af_49 : AFun := ⟨15, [.inl 6], (.seq (.region [(oP 6 (.mov (.const (.bool false))) 0)] 0)
 (.seq (.region rg_49_0 0)
 .ret))⟩
def rg_78_0 : List AOper := [(oP 24 (.faddr 2 (o_ 4)) 0), (oP 25 (.load none (o_ 24)) 0), (oP 26 (.load none (o_ 7)) 0), (oP 27 (.iaddr 1 (o_ 25) (o_ 26)) 0), (oP 28 (.load none (o_ 27)) 0), (oP 29 (.bin false .eql (o_ 28) (oc 0)) 0), (oP 30 (.mov (o_ 29)) 0), (oG 31 (.mov (o_ 1)) 30 false 0), (oG 32 (.mov (o_ 11)) 30 false 0), (oG 33 (.call 103 [(o_ 31), (o_ 32)]) 30 false 0), (oP 34 (.pick (o_ 30) (.const (.bool true)) (o_ 33)) 1), (oP 23 (.mov (o_ 34)) 1)]
def af_78 : AFun := ⟨35, [.inl 8], (.seq (.region [(oP 4 (.box 4 (o_ 0)) 0), (oP 6 (.box 1 (o_ 2)) 1), (oP 7 (.box 1 (o_ 3)) 2), (oP 8 (.mov (.const (.int .u8 0))) 3)] 3)
 (.seq (.region [(oP 12 (.mkFn 100 [] [(o_ 6), (o_ 7)]) 0), (oP 9 (.mov (o_ 12)) 0)] 0)
 (.seq (.region [(oP 13 (.mkFn 101 [] [(o_ 6), (o_ 7)]) 0), (oP 10 (.mov (o_ 13)) 0)] 0)
 (.seq (.region [(oP 14 (.mkFn 102 [] [(o_ 6), (o_ 4), (o_ 7)]) 0), (oP 11 (.mov (o_ 14)) 0)] 0)
 (.seq (.block 0 (.seq (.region [(oP 16 (.mov (o_ 1)) 0), (oP 17 (.mov (o_ 9)) 0), (oP 18 (.call 103 [(o_ 16), (o_ 17)]) 0), (oP 15 (.mov (o_ 18)) 1)] 1)
 (.cond (o_ 15)
 (.seq (.region [(oP 8 (.mov (.const (.int .u8 1))) 0)] 0)
 .ret)
 (.seq (.region [(oP 20 (.mov (o_ 1)) 0), (oP 21 (.mov (o_ 10)) 0), (oP 22 (.call 103 [(o_ 20), (o_ 21)]) 0), (oP 19 (.mov (o_ 22)) 1)] 1)
 (.cond (o_ 19)
 (.seq (.region [(oP 8 (.mov (.const (.int .u8 2))) 0)] 0)
 .ret)
 (.seq (.region rg_78_0 1)
 (.cond (o_ 23)
 (.seq (.region [(oP 8 (.mov (.const (.int .u8 3))) 0)] 0)
 .ret)
 .skip)))))))
 (.seq (.region [(oP 8 (.mov (.const (.int .u8 0))) 0)] 0)
 .ret))))))⟩
def af_91 : AFun := ⟨10, [.inl 4], (.seq (.region [(oP 2 (.box 4 (o_ 0)) 0), (oP 4 (.mov (.const (.bool false))) 1)] 1)
 (.seq (.region [(oP 5 (.load (some 4) (o_ 2)) 0), (oP 6 (.mov (o_ 1)) 0), (oP 7 (.call 58 [(o_ 5), (o_ 6)]) 0), (oP 8 (.field none 0 (o_ 7)) 1), (oP 9 (.bin false .eql (o_ 8) (.const (.int .u8 0))) 1), (oP 4 (.mov (o_ 9)) 1)] 1)
 .ret))⟩
def rg_17_0 : List AOper := [(oP 5 (.faddr 2 (o_ 1)) 0), (oP 6 (.load none (o_ 5)) 0), (oP 7 (.len false (o_ 6)) 0), (oP 8 (.call 49 [(oc 1), (o_ 7), (oc 96)]) 0), (oP 9 (.mov (o_ 8)) 1), (oG 10 (.faddr 3 (o_ 1)) 9 true 1), (oG 11 (.load none (o_ 10)) 9 true 1), (oG 12 (.len false (o_ 11)) 9 true 1), (oG 13 (.faddr 2 (o_ 1)) 9 true 1), (oG 14 (.load none (o_ 13)) 9 true 1), (oG 15 (.len false (o_ 14)) 9 true 1), (oG 16 (.bin false .eql (o_ 12) (o_ 15)) 9 true 1), (oP 17 (.pick (o_ 9) (o_ 16) (.const (.bool false))) 1), (oP 18 (.mov (o_ 17)) 1), (oG 19 (.faddr 2 (o_ 1)) 18 true 1), (oG 20 (.load none (o_ 19)) 18 true 1), (oG 21 (.mov (o_ 3)) 18 true 1), (oG 22 (.call 52 [(o_ 20), (o_ 21)]) 18 true 1), (oG 23 (.un .not (o_ 22)) 18 true 2), (oP 24 (.pick (o_ 18) (o_ 23) (.const (.bool false))) 2), (oP 25 (.mov (o_ 24)) 2), (oG 26 (.faddr 3 (o_ 1)) 25 true 2), (oG 27 (.load none (o_ 26)) 25 true 2), (oG 28 (.mov (o_ 4)) 25 true 2), (oG 29 (.call 52 [(o_ 27), (o_ 28)]) 25 true 2), (oG 30 (.un .not (o_ 29)) 25 true 3), (oP 31 (.pick (o_ 25) (o_ 30) (.const (.bool false))) 3), (oP 32 (.mov (o_ 31)) 3), (oG 33 (.faddr 0 (o_ 1)) 32 true 3), (oG 34 (.load none (o_ 33)) 32 true 3), (oG 35 (.call 49 [(oc 1), (o_ 34), (oc 4)]) 32 true 3), (oP 36 (.pick (o_ 32) (o_ 35) (.const (.bool false))) 4), (oP 37 (.mov (o_ 36)) 4), (oG 38 (.faddr 1 (o_ 1)) 37 true 4), (oG 39 (.load none (o_ 38)) 37 true 4), (oG 40 (.call 49 [(oc 0), (o_ 39), (oc 6)]) 37 true 4), (oP 41 (.pick (o_ 37) (o_ 40) (.const (.bool false))) 5), (oP 42 (.call 51 [(o_ 41)]) 5), (oP 2 (.mov (o_ 42)) 6)]
def af_17 : AFun := ⟨43, [.inl 2], (.seq (.region [(oP 1 (.box 4 (o_ 0)) 0), (oP 2 (.mov (oc 0)) 1)] 1)
 (.seq (.region [(oP 3 (.mov (.func 48)) 0)] 0)
 (.seq (.region [(oP 4 (.mov (.func 50)) 0)] 0)
 (.seq (.region rg_17_0 6)
 .ret))))⟩
def af_53 : AFun := ⟨8, [.inl 3], (.seq (.region [(oP 2 (.box 7 (o_ 0)) 0), (oP 3 (.mov (.const (.bool false))) 1)] 1)
 (.seq (.region [(oP 4 (.load (some 4) (o_ 1)) 0), (oP 5 (.load (some 7) (o_ 2)) 0), (oP 6 (.call 54 [(o_ 4), (o_ 5)]) 0), (oP 7 (.un .not (o_ 6)) 1), (oP 3 (.mov (o_ 7)) 1)] 1)
 .ret))⟩
def af_55 : AFun := ⟨9, [.inl 4], (.seq (.region [(oP 4 (.mov (.const (.bool false))) 0)] 0)
 (.seq (.region [(oP 5 (.mov (o_ 0)) 0), (oP 6 (.mov (o_ 1)) 0), (oP 7 (.call 79 [(o_ 5), (o_ 6)]) 0), (oP 8 (.bin false .geq (o_ 7) (oc 0)) 1), (oP 4 (.mov (o_ 8)) 1)] 1)
 .ret))⟩
def af_51 : AFun := ⟨5, [.inl 2], (.seq (.region [(oP 2 (.mov (oc 0)) 0)] 0)
 (.seq (.seq (.region [(oP 3 (.mov (o_ 0)) 0), (oP 4 (.un .not (o_ 3)) 0)] 0)
 (.cond (o_ 4)
 (.seq (.region [(oP 2 (.mov (oc 2)) 0)] 0)
 .ret)
 .skip))
 (.seq (.region [(oP 2 (.mov (oc 0)) 0)] 0)
 .ret)))⟩
def af_95 : AFun := ⟨8, [.inl 2], (.seq (.region [(oP 2 (.mov (.const (.slice none 0 0))) 0)] 0)
 (.seq (.seq (.region [(oP 3 (.mov (o_ 0)) 0), (oP 4 (.eqNil 0 .eql (o_ 3) (.const (.slice none 0 0))) 0)] 0)
 (.cond (o_ 4)
 (.seq (.region [(oP 2 (.mov (.const (.slice none 0 0))) 0)] 0)
 .ret)
 .skip))
 (.seq (.region [(oP 5 (.bslice 8 0 [(.val (.int .i64 0)), (.val (.int .i64 0)), (.val (.int .i64 0)), (.val (.int .i64 0)), (.val (.int .i64 0)), (.val (.int .i64 0)), (.val (.int .i64 0)), (.val (.int .i64 0))] []) 0), (oP 6 (.mov (o_ 0)) 1), (oP 7 (.append 8 (o_ 5) (o_ 6)) 1), (oP 2 (.mov (o_ 7)) 2)] 2)
 .ret)))⟩
def rg_70_0 : List AOper := [(oP 7 (.mov (o_ 2)) 0), (oP 8 (.mov (o_ 1)) 0), (oP 9 (.bin false .lss (o_ 7) (o_ 8)) 0), (oP 10 (.mov (o_ 9)) 0), (oG 11 (.mov (o_ 1)) 10 true 0), (oG 12 (.mov (o_ 2)) 10 true 0), (oG 13 (.bin false .sub (o_ 11) (o_ 12)) 10 true 0), (oG 14 (.faddr 1 (o_ 3)) 10 true 0), (oG 15 (.load none (o_ 14)) 10 true 0), (oG 16 (.bin false .leq (o_ 13) (o_ 15)) 10 true 0), (oP 17 (.pick (o_ 10) (o_ 16) (.const (.bool false))) 0), (oP 6 (.mov (o_ 17)) 0)]
def af_70 : AFun := ⟨18, [.inl 6], (.seq (.region [(oP 3 (.box 7 (o_ 0)) 0), (oP 6 (.mov (.const (.bool false))) 1)] 1)
 (.seq (.region rg_70_0 0)
 .ret))⟩
def lp_96_0 : ACode := (.seq (.seq (.region [(oP 16 (.mov (o_ 6)) 0), (oP 17 (.mov (o_ 0)) 0), (oP 18 (.len false (o_ 17)) 0), (oP 19 (.bin false .lss (o_ 16) (o_ 18)) 0)] 0)
 (.cond (o_ 19)
 .skip
 (.exit 0)))
 (.seq (.block 1 (.seq (.region [(oP 22 (.mov (o_ 0)) 0), (oP 23 (.mov (o_ 6)) 0), (oP 24 (.iaddr 8 (o_ 22) (o_ 23)) 0), (oP 25 (.load (some 8) (o_ 24)) 0), (oP 7 (.zero [(.val (.int .i64 0)), (.val (.int .i64 0)), (.val (.int .i64 0)), (.val (.int .i64 0)), (.val (.int .i64 0)), (.val (.int .i64 0)), (.val (.int .i64 0)), (.val (.int .i64 0))]) 0), ⟨none, .store 8 (o_ 7) (o_ 25), none, 1, [], true, []⟩] 1)
 (.seq (.region [(oP 26 (.mov (o_ 1)) 0), (oP 27 (.load (some 8) (o_ 7)) 0), (oP 28 (.callv (o_ 26) [(o_ 27)]) 0), (oP 29 (.un .not (o_ 28)) 1)] 1)
 (.cond (o_ 29)
 (.seq (.region [(oP 30 (.mov (o_ 0)) 0), (oP 31 (.mov (o_ 5)) 0), (oP 32 (.load (some 8) (o_ 7)) 0), (oP 33 (.iaddr 8 (o_ 30) (o_ 31)) 0), ⟨none, .store 8 (o_ 33) (o_ 32), none, 0, [], true, []⟩] 0)
 (.region [(oP 34 (.mov (o_ 5)) 0), (oP 35 (.bin false .add (o_ 34) (oc 1)) 0), (oP 5 (.mov (o_ 35)) 0)] 0))
 .skip))))
 (.region [(oP 20 (.mov (o_ 6)) 0), (oP 21 (.bin false .add (o_ 20) (oc 1)) 0), (oP 6 (.mov (o_ 21)) 0)] 0)))
def rs_96_1 : ACode := (.seq (.region [(oP 36 (.mov (o_ 0)) 0), (oP 37 (.mov (o_ 5)) 0), (oP 38 (.slice 8 (o_ 36) (some (o_ 37)) none none) 0), ⟨none, .clear 8 [(.val (.int .i64 0)), (.val (.int .i64 0)), (.val (.int .i64 0)), (.val (.int .i64 0)), (.val (.int .i64 0)), (.val (.int .i64 0)), (.val (.int .i64 0)), (.val (.int .i64 0))] (o_ 38), none, 0, [], true, []⟩] 0)
 (.seq (.region [(oP 39 (.mov (o_ 0)) 0), (oP 40 (.mov (o_ 5)) 0), (oP 41 (.slice 8 (o_ 39) none (some (o_ 40)) none) 0), (oP 4 (.mov (o_ 41)) 0)] 0)
 .ret))
def af_96 : AFun := ⟨42, [.inl 4], (.seq (.region [(oP 4 (.mov (.const (.slice none 0 0))) 0)] 0)
 (.seq (.region [(oP 8 (.mov (o_ 0)) 0), (oP 9 (.mov (o_ 1)) 0), (oP 10 (.call 104 [(o_ 8), (o_ 9)]) 0), (oP 5 (.mov (o_ 10)) 1)] 1)
 (.seq (.seq (.region [(oP 11 (.mov (o_ 5)) 0), (oP 12 (.bin false .eql (o_ 11) (oc (-1))) 0)] 0)
 (.cond (o_ 12)
 (.seq (.region [(oP 13 (.mov (o_ 0)) 0), (oP 4 (.mov (o_ 13)) 0)] 0)
 .ret)
 .skip))
 (.seq (.seq (.region [(oP 14 (.mov (o_ 5)) 0), (oP 15 (.bin false .add (o_ 14) (oc 1)) 0), (oP 6 (.mov (o_ 15)) 0)] 0)
 (.block 0 (.loop lp_96_0)))
 rs_96_1))))⟩
def rg_97_0 : List AOper := [(oP 10 (.mov (o_ 0)) 0), (oP 11 (.mov (o_ 0)) 0), (oP 12 (.nilCheck (o_ 11)) 0), (oP 13 (.faddr 0 (o_ 12)) 0), (oP 14 (.load (some 4) (o_ 13)) 0), (oP 15 (.mov (o_ 1)) 0), (oP 16 (.call 61 [(o_ 14), (o_ 15)]) 0), (oP 17 (.nilCheck (o_ 10)) 1), (oP 18 (.faddr 8 (o_ 17)) 1), ⟨none, .store 1 (o_ 18) (o_ 16), none, 1, [], true, []⟩]
def rg_97_1 : List AOper := [(oP 19 (.mov (o_ 0)) 0), (oP 20 (.mov (o_ 0)) 0), (oP 21 (.nilCheck (o_ 20)) 0), (oP 22 (.faddr 5 (o_ 21)) 0), (oP 23 (.load none (o_ 22)) 0), (oP 24 (.len false (o_ 23)) 0), (oP 25 (.bin false .add (o_ 24) (oc 1)) 0), (oP 26 (.mkSlice 1 8 [(.val (.int .i64 0))] (o_ 25) (o_ 25)) 0), (oP 27 (.nilCheck (o_ 19)) 1), (oP 28 (.faddr 7 (o_ 27)) 1), ⟨none, .store 1 (o_ 28) (o_ 26), none, 1, [], true, []⟩]
def rg_97_2 : List AOper := [(oP 29 (.mov (o_ 0)) 0), (oP 30 (.mov (o_ 0)) 0), (oP 31 (.nilCheck (o_ 30)) 0), (oP 32 (.faddr 5 (o_ 31)) 0), (oP 33 (.load none (o_ 32)) 0), (oP 34 (.len false (o_ 33)) 0), (oP 35 (.mkSlice 1 24 [(.val (.slice none 0 0))] (o_ 34) (o_ 34)) 0), (oP 36 (.nilCheck (o_ 29)) 1), (oP 37 (.faddr 6 (o_ 36)) 1), ⟨none, .store 1 (o_ 37) (o_ 35), none, 1, [], true, []⟩]
def rg_97_3 : List AOper := [(oP 48 (.mov (o_ 0)) 0), ⟨(some 49), .nilCheck (o_ 48), none, 0, [3, 4, 5, 6, 7, 11], false, []⟩, ⟨(some 50), .faddr 4 (o_ 49), none, 1, [3, 4, 5, 6, 7, 11], false, []⟩, ⟨(some 51), .load none (o_ 50), none, 2, [3, 4, 5, 6, 7, 11], false, []⟩, (oP 52 (.mov (o_ 0)) 3), ⟨(some 53), .nilCheck (o_ 52), none, 3, [0, 1, 2, 11], false, []⟩, ⟨(some 54), .faddr 5 (o_ 53), none, 4, [0, 1, 2, 11], false, []⟩, ⟨(some 55), .load none (o_ 54), none, 5, [0, 1, 2, 11], false, []⟩, (oP 56 (.mov (o_ 7)) 6), ⟨(some 57), .iaddr 1 (o_ 55) (o_ 56), none, 6, [0, 1, 2, 11], false, []⟩, ⟨(some 58), .load none (o_ 57), none, 7, [0, 1, 2, 11], false, []⟩, ⟨(some 59), .iaddr 8 (o_ 51) (o_ 58), none, 8, [11], false, []⟩, ⟨(some 60), .faddr 0 (o_ 59), none, 9, [11], false, []⟩, ⟨(some 61), .load (some 7) (o_ 60), none, 10, [11], false, []⟩, ⟨(some 8), .zero [(.val (.int .i64 0)), (.val (.int .i64 0)), (.val (.int .i64 0)), (.val (.int .i64 0)), (.val (.int .i64 0)), (.val (.int .i64 0)), (.val (.int .i64 0))], none, 11, [0, 1, 2, 3, 4, 5, 6, 7, 8, 9, 10], false, []⟩, ⟨none, .store 7 (o_ 8) (o_ 61), none, 12, [], true, []⟩]
def rg_97_4 : List AOper := [(oP 63 (.mov (o_ 0)) 0), ⟨(some 64), .nilCheck (o_ 63), none, 0, [3, 4, 5, 6, 7, 8], false, []⟩, ⟨(some 65), .faddr 6 (o_ 64), none, 1, [3, 4, 5, 6, 7, 8], false, []⟩, ⟨(some 66), .load none (o_ 65), none, 2, [3, 4, 5, 6, 7, 8], false, []⟩, (oP 67 (.mov (o_ 7)) 3), (oP 68 (.mov (o_ 0)) 3), ⟨(some 69), .nilCheck (o_ 68), none, 3, [0, 1, 2, 6], false, []⟩, ⟨(some 70), .faddr 0 (o_ 69), none, 4, [0, 1, 2, 6], false, []⟩, ⟨(some 71), .load (some 4) (o_ 70), none, 5, [0, 1, 2, 6], false, []⟩, (oP 72 (.mov (o_ 1)) 6), ⟨(some 73), .load (some 7) (o_ 8), none, 6, [0, 1, 2, 3, 4, 5], false, []⟩, ⟨(some 74), .call 73 [(o_ 71), (o_ 72), (o_ 73)], none, 7, [0, 1, 2], false, []⟩, (oP 75 (.mov (o_ 9)) 8), ⟨(some 76), .call 111 [(o_ 74), (o_ 75)], none, 8, [0, 1, 2], false, []⟩, (oP 77 (.iaddr 1 (o_ 66) (o_ 67)) 9), ⟨none, .store 1 (o_ 77) (o_ 76), none, 10, [], true, []⟩]
def rg_97_5 : List AOper := [(oP 78 (.mov (o_ 0)) 0), (oP 79 (.nilCheck (o_ 78)) 0), (oP 80 (.faddr 6 (o_ 79)) 0), (oP 81 (.load none (o_ 80)) 0), (oP 82 (.mov (o_ 7)) 0), (oP 83 (.iaddr 1 (o_ 81) (o_ 82)) 0), (oP 84 (.load none (o_ 83)) 0), (oP 85 (.len false (o_ 84)) 0), (oP 86 (.bin false .eql (o_ 85) (oc 0)) 0)]
def rg_97_6 : List AOper := [(oP 87 (.mov (o_ 0)) 0), ⟨(some 88), .nilCheck (o_ 87), none, 0, [3, 4, 5, 6, 7, 8, 9, 10, 11, 12, 13, 14, 15, 16], false, []⟩, ⟨(some 89), .faddr 7 (o_ 88), none, 1, [3, 4, 5, 6, 7, 8, 9, 10, 11, 12, 13, 14, 15, 16], false, []⟩, ⟨(some 90), .load none (o_ 89), none, 2, [3, 4, 5, 6, 7, 8, 9, 10, 11, 12, 13, 14, 15, 16], false, []⟩, (oP 91 (.mov (o_ 7)) 3), (oP 92 (.mov (o_ 0)) 3), ⟨(some 93), .nilCheck (o_ 92), none, 3, [0, 1, 2, 8, 9, 10, 11, 12, 13, 14, 15, 16], false, []⟩, ⟨(some 94), .faddr 7 (o_ 93), none, 4, [0, 1, 2, 8, 9, 10, 11, 12, 13, 14, 15, 16], false, []⟩, ⟨(some 95), .load none (o_ 94), none, 5, [0, 1, 2, 8, 9, 10, 11, 12, 13, 14, 15, 16], false, []⟩, (oP 96 (.mov (o_ 7)) 6), (oP 97 (.bin false .add (o_ 96) (oc 1)) 6), ⟨(some 98), .iaddr 1 (o_ 95) (o_ 97), none, 6, [0, 1, 2, 8, 9, 10, 11, 12, 13, 14, 15, 16], false, []⟩, ⟨(some 99), .load none (o_ 98), none, 7, [0, 1, 2, 8, 9, 10, 11, 12, 13, 14, 15, 16], false, []⟩, ⟨(some 100), .load (some 7) (o_ 8), none, 8, [0, 1, 2, 3, 4, 5, 6, 7, 9, 10, 11, 12, 13, 14, 15], false, []⟩, (oP 101 (.mov (o_ 0)) 9), ⟨(some 102), .nilCheck (o_ 101), none, 9, [0, 1, 2, 3, 4, 5, 6, 7, 8], false, []⟩, ⟨(some 103), .faddr 6 (o_ 102), none, 10, [0, 1, 2, 3, 4, 5, 6, 7, 8], false, []⟩, ⟨(some 104), .load none (o_ 103), none, 11, [0, 1, 2, 3, 4, 5, 6, 7, 8], false, []⟩, (oP 105 (.mov (o_ 7)) 12), ⟨(some 106), .iaddr 1 (o_ 104) (o_ 105), none, 12, [0, 1, 2, 3, 4, 5, 6, 7, 8], false, []⟩, ⟨(some 107), .load none (o_ 106), none, 13, [0, 1, 2, 3, 4, 5, 6, 7, 8], false, []⟩, ⟨(some 108), .iaddr 1 (o_ 107) (oc 0), none, 14, [0, 1, 2, 3, 4, 5, 6, 7, 8], false, []⟩, ⟨(some 109), .load none (o_ 108), none, 15, [0, 1, 2, 3, 4, 5, 6, 7, 8], false, []⟩, (oP 110 (.build [(.val (.int .i64 0)), (.val (.int .i64 0)), (.val (.int .i64 0)), (.val (.int .i64 0)), (.val (.int .i64 0)), (.val (.int .i64 0)), (.val (.int .i64 0)), (.val (.int .i64 0))] [(0, 7, (o_ 100)), (7, 1, (o_ 109))]) 16), ⟨(some 111), .call 74 [(o_ 110)], none, 16, [0, 1, 2, 3, 4, 5, 6, 7], false, []⟩, (oP 112 (.bin false .add (o_ 99) (o_ 111)) 17), (oP 113 (.iaddr 1 (o_ 90) (o_ 91)) 17), ⟨none, .store 1 (o_ 113) (o_ 112), none, 18, [], true, []⟩]
def lp_97_7 : ACode := (.seq (.seq (.region [(oP 44 (.mov (o_ 7)) 0), (oP 45 (.bin false .geq (o_ 44) (oc 0)) 0)] 0)
 (.cond (o_ 45)
 .skip
 (.exit 0)))
 (.seq (.block 1 (.seq (.region rg_97_3 13)
 (.seq (.region [(oP 62 (.mkFn 110 [] [(o_ 8), (o_ 5)]) 0), (oP 9 (.mov (o_ 62)) 0)] 0)
 (.seq (.region rg_97_4 11)
 (.seq (.seq (.region rg_97_5 0)
 (.cond (o_ 86)
 (.seq (.region [(oP 6 (.mov (.const (.bool false))) 0)] 0)
 .ret)
 .skip))
 (.region rg_97_6 19))))))
 (.region [(oP 46 (.mov (o_ 7)) 0), (oP 47 (.bin false .sub (o_ 46) (oc 1)) 0), (oP 7 (.mov (o_ 47)) 0)] 0)))
def rs_97_8 : ACode := (.seq (.region [(oP 6 (.mov (.const (.bool true))) 0)] 0)
 .ret)
def af_97 : AFun := ⟨114, [.inl 6], (.seq (.region [(oP 5 (.box 1 (o_ 2)) 0), (oP 6 (.mov (.const (.bool false))) 1)] 1)
 (.seq (.region rg_97_0 1)
 (.seq (.region rg_97_1 1)
 (.seq (.region rg_97_2 1)
 (.seq (.seq (.region [(oP 38 (.mov (o_ 0)) 0), (oP 39 (.nilCheck (o_ 38)) 0), (oP 40 (.faddr 5 (o_ 39)) 0), (oP 41 (.load none (o_ 40)) 0), (oP 42 (.len false (o_ 41)) 0), (oP 43 (.bin false .sub (o_ 42) (oc 1)) 0), (oP 7 (.mov (o_ 43)) 0)] 0)
 (.block 0 (.loop lp_97_7)))
 rs_97_8)))))⟩
def lp_60_0 : ACode := (.seq (.region [(oP 9 (.bin false .lss (o_ 8) (o_ 7)) 0)] 0)
 (.seq (.cond (o_ 9)
 .skip
 (.exit 0))
 (.seq (.block 1 (.seq (.region [(oP 10 (.iaddr 8 (o_ 6) (o_ 8)) 0), (oP 11 (.load (some 8) (o_ 10)) 0), (oP 5 (.zero [(.val (.int .i64 0)), (.val (.int .i64 0)), (.val (.int .i64 0)), (.val (.int .i64 0)), (.val (.int .i64 0)), (.val (.int .i64 0)), (.val (.int .i64 0)), (.val (.int .i64 0))]) 0), ⟨none, .store 8 (o_ 5) (o_ 11), none, 1, [], true, []⟩] 1)
 (.region [(oP 12 (.mov (o_ 3)) 0), (oP 13 (.load (some 8) (o_ 5)) 0), (oP 14 (.call 74 [(o_ 13)]) 0), (oP 15 (.bin false .add (o_ 12) (o_ 14)) 1), (oP 3 (.mov (o_ 15)) 1)] 1)))
 (.region [(oP 16 (.bin false .add (o_ 8) (oc 1)) 0), (oP 8 (.mov (o_ 16)) 0)] 0))))
def rs_60_1 : ACode := (.seq (.region [(oP 17 (.mov (o_ 3)) 0), (oP 2 (.mov (o_ 17)) 0)] 0)
 .ret)
def af_60 : AFun := ⟨18, [.inl 2], (.seq (.region [(oP 2 (.mov (oc 0)) 0)] 0)
 (.seq (.region [(oP 3 (.mov (oc 0)) 0)] 0)
 (.seq (.seq (.region [(oP 6 (.mov (o_ 0)) 0), (oP 7 (.len false (o_ 6)) 0), (oP 8 (.mov (oc 0)) 0)] 0)
 (.block 0 (.loop lp_60_0)))
 rs_60_1)))⟩
def rg_98_0 : List AOper := [(oP 17 (.mov (o_ 0)) 0), (oP 18 (.mov (o_ 0)) 0), (oP 19 (.mov (o_ 0)) 0), (oP 20 (.nilCheck (o_ 19)) 0), (oP 21 (.faddr 4 (o_ 20)) 0), (oP 22 (.load none (o_ 21)) 0), (oP 23 (.len false (o_ 22)) 0), (oP 24 (.mkSlice 8 64 [(.val (.int .i64 0)), (.val (.int .i64 0)), (.val (.int .i64 0)), (.val (.int .i64 0)), (.val (.int .i64 0)), (.val (.int .i64 0)), (.val (.int .i64 0)), (.val (.int .i64 0))] (o_ 23) (o_ 23)) 0), (oP 25 (.mov (o_ 2)) 1), (oP 26 (.nilCheck (o_ 17)) 1), (oP 27 (.faddr 9 (o_ 26)) 1), ⟨none, .store 1 (o_ 27) (o_ 24), none, 1, [], true, []⟩, (oP 28 (.nilCheck (o_ 18)) 1), (oP 29 (.faddr 10 (o_ 28)) 1), ⟨none, .store 1 (o_ 29) (o_ 25), none, 1, [], true, []⟩]
def rg_98_1 : List AOper := [(oP 30 (.mov (o_ 0)) 0), ⟨(some 31), .nilCheck (o_ 30), none, 0, [3, 4, 5], false, []⟩, ⟨(some 32), .faddr 9 (o_ 31), none, 1, [3, 4, 5], false, []⟩, ⟨(some 33), .load none (o_ 32), none, 2, [3, 4, 5], false, []⟩, (oP 34 (.mov (o_ 0)) 3), ⟨(some 35), .nilCheck (o_ 34), none, 3, [0, 1, 2], false, []⟩, ⟨(some 36), .faddr 4 (o_ 35), none, 4, [0, 1, 2], false, []⟩, ⟨(some 37), .load none (o_ 36), none, 5, [0, 1, 2], false, []⟩, (oP 38 (.copy 8 (o_ 33) (o_ 37)) 6)]
def rg_98_2 : List AOper := [(oP 39 (.mov (o_ 0)) 0), ⟨(some 40), .nilCheck (o_ 39), none, 0, [3, 4, 5, 6, 7], false, []⟩, ⟨(some 41), .faddr 4 (o_ 40), none, 1, [3, 4, 5, 6, 7], false, []⟩, ⟨(some 42), .load none (o_ 41), none, 2, [3, 4, 5, 6, 7], false, []⟩, (oP 43 (.mov (o_ 0)) 3), ⟨(some 44), .nilCheck (o_ 43), none, 3, [0, 1, 2], false, []⟩, ⟨(some 45), .faddr 5 (o_ 44), none, 4, [0, 1, 2], false, []⟩, ⟨(some 46), .load none (o_ 45), none, 5, [0, 1, 2], false, []⟩, (oP 47 (.mov (o_ 1)) 6), ⟨(some 48), .iaddr 1 (o_ 46) (o_ 47), none, 6, [0, 1, 2], false, []⟩, ⟨(some 49), .load none (o_ 48), none, 7, [0, 1, 2], false, []⟩, (oP 50 (.iaddr 8 (o_ 42) (o_ 49)) 8), (oP 6 (.mov (o_ 50)) 9)]
def rg_98_3 : List AOper := [(oP 51 (.mov (o_ 0)) 0), (oP 52 (.nilCheck (o_ 51)) 0), (oP 53 (.faddr 6 (o_ 52)) 0), (oP 54 (.load none (o_ 53)) 0), (oP 55 (.mov (o_ 1)) 0), (oP 56 (.iaddr 1 (o_ 54) (o_ 55)) 0), (oP 57 (.load none (o_ 56)) 0), (oP 58 (.len false (o_ 57)) 0), (oP 59 (.mov (oc 0)) 0)]
def rg_98_4 : List AOper := [(oP 73 (.mov (o_ 0)) 0), (oP 74 (.nilCheck (o_ 73)) 0), (oP 75 (.faddr 9 (o_ 74)) 1), (oP 76 (.load none (o_ 75)) 2), (oP 77 (.eqNil 0 .neq (o_ 76) (.const (.slice none 0 0))) 3), (oP 78 (.mov (o_ 77)) 4), (oG 79 (.mov (o_ 9)) 78 true 4), (oG 80 (.mov (o_ 0)) 78 true 4), ⟨(some 81), .nilCheck (o_ 80), (some ((some 78), true)), 4, [9, 10, 11], false, []⟩, ⟨(some 82), .faddr 7 (o_ 81), (some ((some 78), true)), 5, [9, 10, 11], false, []⟩, ⟨(some 83), .load none (o_ 82), (some ((some 78), true)), 6, [9, 10, 11], false, []⟩, (oG 84 (.mov (o_ 1)) 78 true 7), (oG 85 (.bin false .add (o_ 84) (oc 1)) 78 true 7), ⟨(some 86), .iaddr 1 (o_ 83) (o_ 85), (some ((some 78), true)), 7, [9, 10, 11], false, []⟩, ⟨(some 87), .load none (o_ 86), (some ((some 78), true)), 8, [9, 10, 11], false, []⟩, (oG 88 (.bin false .add (o_ 79) (o_ 87)) 78 true 9), (oG 89 (.mov (o_ 0)) 78 true 9), ⟨(some 90), .nilCheck (o_ 89), (some ((some 78), true)), 9, [4, 5, 6, 7, 8], false, []⟩, ⟨(some 91), .faddr 10 (o_ 90), (some ((some 78), true)), 10, [4, 5, 6, 7, 8], false, []⟩, ⟨(some 92), .load none (o_ 91), (some ((some 78), true)), 11, [4, 5, 6, 7, 8], false, []⟩, (oG 93 (.bin false .geq (o_ 88) (o_ 92)) 78 true 12), (oP 94 (.pick (o_ 78) (o_ 93) (.const (.bool false))) 12)]
def lp_98_5 : ACode := (.seq (.region [(oP 60 (.bin false .lss (o_ 59) (o_ 58)) 0)] 0)
 (.seq (.cond (o_ 60)
 .skip
 (.exit 0))
 (.seq (.block 1 (.seq (.region [(oP 61 (.iaddr 1 (o_ 57) (o_ 59)) 0), (oP 62 (.load none (o_ 61)) 0), (oP 8 (.mov (o_ 62)) 0)] 0)
 (.seq (.region [(oP 63 (.mov (o_ 6)) 0), (oP 64 (.mov (o_ 8)) 0), (oP 65 (.nilCheck (o_ 63)) 0), (oP 66 (.faddr 7 (o_ 65)) 0), ⟨none, .store 1 (o_ 66) (o_ 64), none, 0, [], true, []⟩] 0)
 (.seq (.region [(oP 67 (.mov (o_ 2)) 0), (oP 68 (.mov (o_ 6)) 0), (oP 69 (.nilCheck (o_ 68)) 0), (oP 70 (.load (some 8) (o_ 69)) 0), (oP 71 (.call 74 [(o_ 70)]) 0), (oP 72 (.bin false .add (o_ 67) (o_ 71)) 1), (oP 9 (.mov (o_ 72)) 1)] 1)
 (.seq (.seq (.region rg_98_4 12)
 (.cond (o_ 94)
 .ret
 .skip))
 (.seq (.region [(oP 95 (.mov (o_ 0)) 0), (oP 96 (.mov (o_ 1)) 0), (oP 97 (.call 112 [(o_ 95), (o_ 96)]) 0)] 1)
 (.cond (o_ 97)
 (.seq (.region [(oP 98 (.mov (o_ 0)) 0), ⟨(some 99), .nilCheck (o_ 98), none, 0, [3, 4], false, []⟩, ⟨(some 100), .faddr 8 (o_ 99), none, 1, [3, 4], false, []⟩, ⟨(some 101), .load none (o_ 100), none, 2, [3, 4], false, []⟩, (oP 102 (.mov (o_ 6)) 3), ⟨(some 103), .nilCheck (o_ 102), none, 3, [0, 1, 2], false, []⟩, ⟨(some 104), .load (some 8) (o_ 103), none, 4, [0, 1, 2], false, []⟩, (oP 105 (.call 92 [(o_ 101), (o_ 104), (oc 1)]) 5)] 6)
 (.seq (.region [(oP 106 (.mov (o_ 0)) 0), (oP 107 (.mov (o_ 1)) 0), (oP 108 (.bin false .add (o_ 107) (oc 1)) 0), (oP 109 (.mov (o_ 9)) 0), (oP 110 (.call 98 [(o_ 106), (o_ 108), (o_ 109)]) 0)] 1)
 (.region [(oP 111 (.mov (o_ 0)) 0), ⟨(some 112), .nilCheck (o_ 111), none, 0, [3, 4], false, []⟩, ⟨(some 113), .faddr 8 (o_ 112), none, 1, [3, 4], false, []⟩, ⟨(some 114), .load none (o_ 113), none, 2, [3, 4], false, []⟩, (oP 115 (.mov (o_ 6)) 3), ⟨(some 116), .nilCheck (o_ 115), none, 3, [0, 1, 2], false, []⟩, ⟨(some 117), .load (some 8) (o_ 116), none, 4, [0, 1, 2], false, []⟩, (oP 118 (.call 92 [(o_ 114), (o_ 117), (oc (-1))]) 5)] 6)))
 .skip)))))))
 (.region [(oP 119 (.bin false .add (o_ 59) (oc 1)) 0), (oP 59 (.mov (o_ 119)) 0)] 0))))
def af_98 : AFun := ⟨120, [], (.seq (.seq (.region [(oP 10 (.mov (o_ 1)) 0), (oP 11 (.mov (o_ 0)) 0), (oP 12 (.nilCheck (o_ 11)) 0), (oP 13 (.faddr 5 (o_ 12)) 0), (oP 14 (.load none (o_ 13)) 0), (oP 15 (.len false (o_ 14)) 0), (oP 16 (.bin false .eql (o_ 10) (o_ 15)) 0)] 0)
 (.cond (o_ 16)
 (.seq (.region rg_98_0 1)
 (.seq (.region rg_98_1 7)
 .ret))
 .skip))
 (.seq (.region rg_98_2 9)
 (.seq (.region rg_98_3 0)
 (.block 0 (.loop lp_98_5)))))⟩
def af_80 : AFun := ⟨12, [.inl 5], (.seq (.region [(oP 3 (.box 8 (o_ 0)) 0), (oP 5 (.mov (.const (.bool false))) 1)] 1)
 (.seq (.region [(oP 6 (.faddr 2 (o_ 2)) 0), (oP 7 (.load none (o_ 6)) 0), (oP 8 (.mov (o_ 1)) 0), (oP 9 (.iaddr 1 (o_ 7) (o_ 8)) 0), (oP 10 (.load none (o_ 9)) 0), (oP 11 (.bin false .eql (o_ 10) (oc 0)) 0), (oP 5 (.mov (o_ 11)) 0)] 0)
 .ret))⟩
def rg_81_0 : List AOper := [⟨(some 6), .faddr 3 (o_ 2), none, 0, [4, 5, 6], false, []⟩, ⟨(some 7), .load none (o_ 6), none, 1, [4, 5, 6], false, []⟩, (oP 8 (.mov (o_ 1)) 2), ⟨(some 9), .iaddr 1 (o_ 7) (o_ 8), none, 2, [4, 5, 6], false, []⟩, ⟨(some 10), .load none (o_ 9), none, 3, [4, 5, 6], false, []⟩, ⟨(some 11), .faddr 0 (o_ 3), none, 4, [0, 1, 2, 3], false, []⟩, ⟨(some 12), .faddr 3 (o_ 11), none, 5, [0, 1, 2, 3], false, []⟩, ⟨(some 13), .load none (o_ 12), none, 6, [0, 1, 2, 3], false, []⟩, (oP 14 (.bin false .lss (o_ 10) (o_ 13)) 7), (oP 5 (.mov (o_ 14)) 7)]
def af_81 : AFun := ⟨15, [.inl 5], (.seq (.region [(oP 3 (.box 8 (o_ 0)) 0), (oP 5 (.mov (.const (.bool false))) 1)] 1)
 (.seq (.region rg_81_0 7)
 .ret))⟩
def af_82 : AFun := ⟨4, [.inr (1, (some 4))], (.seq (.region [(oP 1 (.zero [(.val (.int .u8 0)), (.val (.int .i64 0)), (.val (.int .i64 0)), (.val (.int .i64 0))]) 0)] 1)
 (.seq (.region [(oP 2 (.load none (o_ 0)) 0), (oP 3 (.call 83 [(o_ 2)]) 0), ⟨none, .store 4 (o_ 1) (o_ 3), none, 1, [], true, []⟩] 1)
 .ret))⟩
def af_84 : AFun := ⟨6, [.inr (2, (some 4))], (.seq (.region [(oP 2 (.zero [(.val (.int .u8 0)), (.val (.int .i64 0)), (.val (.int .i64 0)), (.val (.int .i64 0))]) 0)] 1)
 (.seq (.region [(oP 3 (.load none (o_ 0)) 0), (oP 4 (.load none (o_ 1)) 0), (oP 5 (.call 85 [(o_ 3), (.const (.int .u8 2)), (o_ 4)]) 0), ⟨none, .store 4 (o_ 2) (o_ 5), none, 1, [], true, []⟩] 1)
 .ret))⟩
def af_86 : AFun := ⟨6, [.inr (2, (some 4))], (.seq (.region [(oP 2 (.zero [(.val (.int .u8 0)), (.val (.int .i64 0)), (.val (.int .i64 0)), (.val (.int .i64 0))]) 0)] 1)
 (.seq (.region [(oP 3 (.load none (o_ 0)) 0), (oP 4 (.load none (o_ 1)) 0), (oP 5 (.call 85 [(o_ 3), (.const (.int .u8 3)), (o_ 4)]) 0), ⟨none, .store 4 (o_ 2) (o_ 5), none, 1, [], true, []⟩] 1)
 .ret))⟩
def af_87 : AFun := ⟨6, [.inr (2, (some 4))], (.seq (.region [(oP 2 (.zero [(.val (.int .u8 0)), (.val (.int .i64 0)), (.val (.int .i64 0)), (.val (.int .i64 0))]) 0)] 1)
 (.seq (.region [(oP 3 (.load (some 4) (o_ 0)) 0), (oP 4 (.load none (o_ 1)) 0), (oP 5 (.call 88 [(o_ 3), (o_ 4)]) 0), ⟨none, .store 4 (o_ 2) (o_ 5), none, 1, [], true, []⟩] 1)
 .ret))⟩
def af_89 : AFun := ⟨6, [.inr (2, (some 4))], (.seq (.region [(oP 2 (.zero [(.val (.int .u8 0)), (.val (.int .i64 0)), (.val (.int .i64 0)), (.val (.int .i64 0))]) 0)] 1)
 (.seq (.region [(oP 3 (.load (some 4) (o_ 0)) 0), (oP 4 (.load none (o_ 1)) 0), (oP 5 (.call 90 [(o_ 3), (o_ 4)]) 0), ⟨none, .store 4 (o_ 2) (o_ 5), none, 1, [], true, []⟩] 1)
 .ret))⟩
def rg_100_0 : List AOper := [⟨(some 5), .faddr 0 (o_ 3), none, 0, [3], false, []⟩, ⟨(some 6), .faddr 0 (o_ 5), none, 1, [3], false, []⟩, ⟨(some 7), .load none (o_ 6), none, 2, [3], false, []⟩, ⟨(some 8), .load none (o_ 1), none, 3, [0, 1, 2], false, []⟩, (oP 9 (.bin false .eql (o_ 7) (o_ 8)) 4), (oP 10 (.mov (o_ 9)) 4), ⟨(some 11), .faddr 7 (o_ 3), (some ((some 10), true)), 4, [6, 7, 8], false, []⟩, ⟨(some 12), .load none (o_ 11), (some ((some 10), true)), 5, [6, 7, 8], false, []⟩, ⟨(some 13), .load none (o_ 2), (some ((some 10), true)), 6, [4, 5, 7, 8], false, []⟩, ⟨(some 14), .load (some 8) (o_ 3), (some ((some 10), true)), 7, [4, 5, 6], false, []⟩, ⟨(some 15), .call 99 [(o_ 14)], (some ((some 10), true)), 8, [4, 5, 6], false, []⟩, (oG 16 (.bin false .sub (o_ 15) (oc 1)) 10 true 9), (oG 17 (.call 49 [(o_ 12), (o_ 13), (o_ 16)]) 10 true 9), (oP 18 (.pick (o_ 10) (o_ 17) (.const (.bool false))) 10), (oP 4 (.mov (o_ 18)) 10)]
def af_100 : AFun := ⟨19, [.inl 4], (.seq (.region [(oP 3 (.box 8 (o_ 0)) 0), (oP 4 (.mov (.const (.bool false))) 1)] 1)
 (.seq (.region rg_100_0 10)
 .ret))⟩
def rg_101_0 : List AOper := [⟨(some 5), .faddr 0 (o_ 3), none, 0, [3], false, []⟩, ⟨(some 6), .faddr 0 (o_ 5), none, 1, [3], false, []⟩, ⟨(some 7), .load none (o_ 6), none, 2, [3], false, []⟩, ⟨(some 8), .load none (o_ 1), none, 3, [0, 1, 2], false, []⟩, (oP 9 (.bin false .eql (o_ 7) (o_ 8)) 4), (oP 10 (.mov (o_ 9)) 4), ⟨(some 11), .load (some 8) (o_ 3), (some ((some 10), true)), 4, [6, 7, 8], false, []⟩, ⟨(some 12), .call 65 [(o_ 11)], (some ((some 10), true)), 5, [6, 7, 8], false, []⟩, ⟨(some 13), .load none (o_ 2), (some ((some 10), true)), 6, [4, 5, 7, 8], false, []⟩, ⟨(some 14), .faddr 7 (o_ 3), (some ((some 10), true)), 7, [4, 5, 6], false, []⟩, ⟨(some 15), .load none (o_ 14), (some ((some 10), true)), 8, [4, 5, 6], false, []⟩, (oG 16 (.bin false .sub (o_ 15) (oc 1)) 10 true 9), (oG 17 (.call 49 [(o_ 12), (o_ 13), (o_ 16)]) 10 true 9), (oP 18 (.pick (o_ 10) (o_ 17) (.const (.bool false))) 10), (oP 4 (.mov (o_ 18)) 10)]
def af_101 : AFun := ⟨19, [.inl 4], (.seq (.region [(oP 3 (.box 8 (o_ 0)) 0), (oP 4 (.mov (.const (.bool false))) 1)] 1)
 (.seq (.region rg_101_0 10)
 .ret))⟩
def rg_102_0 : List AOper := [⟨(some 6), .faddr 0 (o_ 4), none, 0, [3], false, []⟩, ⟨(some 7), .faddr 0 (o_ 6), none, 1, [3], false, []⟩, ⟨(some 8), .load none (o_ 7), none, 2, [3], false, []⟩, ⟨(some 9), .load none (o_ 1), none, 3, [0, 1, 2], false, []⟩, (oP 10 (.bin false .neq (o_ 8) (o_ 9)) 4), (oP 11 (.mov (o_ 10)) 4), ⟨(some 12), .faddr 7 (o_ 4), (some ((some 11), true)), 4, [6, 7, 8, 9, 10, 11, 12], false, []⟩, ⟨(some 13), .load none (o_ 12), (some ((some 11), true)), 5, [6, 7, 8, 9, 10, 11, 12], false, []⟩, ⟨(some 14), .faddr 1 (o_ 2), (some ((some 11), true)), 6, [4, 5, 8, 9, 10, 11, 12], false, []⟩, ⟨(some 15), .load none (o_ 14), (some ((some 11), true)), 7, [4, 5, 8, 9, 10, 11, 12], false, []⟩, (oG 16 (.bin false .sub (o_ 13) (o_ 15)) 11 true 8), ⟨(some 17), .load none (o_ 3), (some ((some 11), true)), 8, [4, 5, 6, 7, 9, 10, 11, 12], false, []⟩, ⟨(some 18), .load (some 8) (o_ 4), (some ((some 11), true)), 9, [4, 5, 6, 7, 8, 11, 12], false, []⟩, ⟨(some 19), .call 99 [(o_ 18)], (some ((some 11), true)), 10, [4, 5, 6, 7, 8, 11, 12], false, []⟩, ⟨(some 20), .faddr 1 (o_ 2), (some ((some 11), true)), 11, [4, 5, 6, 7, 8, 9, 10], false, []⟩, ⟨(some 21), .load none (o_ 20), (some ((some 11), true)), 12, [4, 5, 6, 7, 8, 9, 10], false, []⟩, (oG 22 (.bin false .add (o_ 19) (o_ 21)) 11 true 13), (oG 23 (.bin false .sub (o_ 22) (oc 1)) 11 true 13), (oG 24 (.call 49 [(o_ 16), (o_ 17), (o_ 23)]) 11 true 13), (oP 25 (.pick (o_ 11) (o_ 24) (.const (.bool false))) 14), (oP 5 (.mov (o_ 25)) 14)]
def af_102 : AFun := ⟨26, [.inl 5], (.seq (.region [(oP 4 (.box 8 (o_ 0)) 0), (oP 5 (.mov (.const (.bool false))) 1)] 1)
 (.seq (.region rg_102_0 14)
 .ret))⟩
def af_103 : AFun := ⟨9, [.inl 4], (.seq (.region [(oP 4 (.mov (.const (.bool false))) 0)] 0)
 (.seq (.region [(oP 5 (.mov (o_ 0)) 0), (oP 6 (.mov (o_ 1)) 0), (oP 7 (.call 104 [(o_ 5), (o_ 6)]) 0), (oP 8 (.bin false .geq (o_ 7) (oc 0)) 1), (oP 4 (.mov (o_ 8)) 1)] 1)
 .ret))⟩
def af_48 : AFun := ⟨6, [.inl 2], (.seq (.region [(oP 2 (.mov (.const (.bool false))) 0)] 0)
 (.seq (.region [(oP 3 (.mov (o_ 0)) 0), (oP 4 (.call 49 [(oc 0), (o_ 3), (oc 1000)]) 0), (oP 5 (.un .not (o_ 4)) 1), (oP 2 (.mov (o_ 5)) 1)] 1)
 .ret))⟩
def af_50 : AFun := ⟨6, [.inl 2], (.seq (.region [(oP 2 (.mov (.const (.bool false))) 0)] 0)
 (.seq (.region [(oP 3 (.mov (o_ 0)) 0), (oP 4 (.call 49 [(oc 0), (o_ 3), (oc 1000)]) 0), (oP 5 (.un .not (o_ 4)) 1), (oP 2 (.mov (o_ 5)) 1)] 1)
 .ret))⟩
def af_52 : AFun := ⟨9, [.inl 4], (.seq (.region [(oP 4 (.mov (.const (.bool false))) 0)] 0)
 (.seq (.region [(oP 5 (.mov (o_ 0)) 0), (oP 6 (.mov (o_ 1)) 0), (oP 7 (.call 66 [(o_ 5), (o_ 6)]) 0), (oP 8 (.bin false .geq (o_ 7) (oc 0)) 1), (oP 4 (.mov (o_ 8)) 1)] 1)
 .ret))⟩
def rg_54_0 : List AOper := [(oP 5 (.faddr 0 (o_ 3)) 0), (oP 6 (.load none (o_ 5)) 0), (oP 7 (.call 49 [(oc 0), (o_ 6), (oc 20)]) 0), (oP 8 (.mov (o_ 7)) 1), (oG 9 (.faddr 1 (o_ 3)) 8 true 1), (oG 10 (.load none (o_ 9)) 8 true 1), (oG 11 (.call 49 [(oc 0), (o_ 10), (oc 24)]) 8 true 1), (oP 12 (.pick (o_ 8) (o_ 11) (.const (.bool false))) 2), (oP 13 (.mov (o_ 12)) 2), (oG 14 (.faddr 2 (o_ 3)) 13 true 2), (oG 15 (.load none (o_ 14)) 13 true 2), (oG 16 (.call 49 [(oc 1), (o_ 15), (oc 24)]) 13 true 2), (oP 17 (.pick (o_ 13) (o_ 16) (.const (.bool false))) 3), (oP 18 (.mov (o_ 17)) 3), (oG 19 (.faddr 3 (o_ 3)) 18 true 3), (oG 20 (.load none (o_ 19)) 18 true 3), (oG 21 (.call 49 [(oc 0), (o_ 20), (oc 1000)]) 18 true 3), (oP 22 (.pick (o_ 18) (o_ 21) (.const (.bool false))) 4), (oP 23 (.mov (o_ 22)) 4), (oG 24 (.faddr 6 (o_ 3)) 23 true 4), (oG 25 (.load none (o_ 24)) 23 true 4), (oG 26 (.call 49 [(oc 0), (o_ 25), (oc 100)]) 23 true 4), (oP 27 (.pick (o_ 23) (o_ 26) (.const (.bool false))) 5), (oP 28 (.mov (o_ 27)) 5), (oG 29 (.faddr 4 (o_ 3)) 28 true 5), (oG 30 (.load none (o_ 29)) 28 true 5), (oG 31 (.faddr 5 (o_ 3)) 28 true 5), (oG 32 (.load none (o_ 31)) 28 true 5), (oG 33 (.call 49 [(oc 0), (o_ 30), (o_ 32)]) 28 true 5), (oP 34 (.pick (o_ 28) (o_ 33) (.const (.bool false))) 6), (oP 35 (.mov (o_ 34)) 6), (oG 36 (.faddr 5 (o_ 3)) 35 true 6), (oG 37 (.load none (o_ 36)) 35 true 6), (oG 38 (.faddr 2 (o_ 2)) 35 true 6), (oG 39 (.load none (o_ 38)) 35 true 6), (oG 40 (.len false (o_ 39)) 35 true 6), (oG 41 (.bin false .leq (o_ 37) (o_ 40)) 35 true 6), (oP 42 (.pick (o_ 35) (o_ 41) (.const (.bool false))) 6), (oP 4 (.mov (o_ 42)) 6)]
def af_54 : AFun := ⟨43, [.inl 4], (.seq (.region [(oP 2 (.box 4 (o_ 0)) 0), (oP 3 (.box 7 (o_ 1)) 1), (oP 4 (.mov (.const (.bool false))) 2)] 2)
 (.seq (.region rg_54_0 6)
 .ret))⟩
def lp_79_0 : ACode := (.seq (.region [(oP 9 (.bin false .lss (o_ 8) (o_ 7)) 0)] 0)
 (.seq (.cond (o_ 9)
 .skip
 (.exit 0))
 (.seq (.block 1 (.seq (.region [(oP 10 (.mov (o_ 8)) 0), (oP 5 (.mov (o_ 10)) 0)] 0)
 (.seq (.region [(oP 11 (.mov (o_ 1)) 0), (oP 12 (.mov (o_ 0)) 0), (oP 13 (.mov (o_ 5)) 0), (oP 14 (.iaddr 7 (o_ 12) (o_ 13)) 0), (oP 15 (.load (some 7) (o_ 14)) 0), (oP 16 (.callv (o_ 11) [(o_ 15)]) 0)] 1)
 (.cond (o_ 16)
 (.seq (.region [(oP 17 (.mov (o_ 5)) 0), (oP 4 (.mov (o_ 17)) 0)] 0)
 .ret)
 .skip))))
 (.region [(oP 18 (.bin false .add (o_ 8) (oc 1)) 0), (oP 8 (.mov (o_ 18)) 0)] 0))))
def rs_79_1 : ACode := (.seq (.region [(oP 4 (.mov (oc (-1))) 0)] 0)
 .ret)
def af_79 : AFun := ⟨19, [.inl 4], (.seq (.region [(oP 4 (.mov (oc 0)) 0)] 0)
 (.seq (.seq (.region [(oP 6 (.mov (o_ 0)) 0), (oP 7 (.len false (o_ 6)) 0), (oP 8 (.mov (oc 0)) 0)] 0)
 (.block 0 (.loop lp_79_0)))
 rs_79_1))⟩
def lp_104_0 : ACode := (.seq (.region [(oP 9 (.bin false .lss (o_ 8) (o_ 7)) 0)] 0)
 (.seq (.cond (o_ 9)
 .skip
 (.exit 0))
 (.seq (.block 1 (.seq (.region [(oP 10 (.mov (o_ 8)) 0), (oP 5 (.mov (o_ 10)) 0)] 0)
 (.seq (.region [(oP 11 (.mov (o_ 1)) 0), (oP 12 (.mov (o_ 0)) 0), (oP 13 (.mov (o_ 5)) 0), (oP 14 (.iaddr 8 (o_ 12) (o_ 13)) 0), (oP 15 (.load (some 8) (o_ 14)) 0), (oP 16 (.callv (o_ 11) [(o_ 15)]) 0)] 1)
 (.cond (o_ 16)
 (.seq (.region [(oP 17 (.mov (o_ 5)) 0), (oP 4 (.mov (o_ 17)) 0)] 0)
 .ret)
 .skip))))
 (.region [(oP 18 (.bin false .add (o_ 8) (oc 1)) 0), (oP 8 (.mov (o_ 18)) 0)] 0))))
def rs_104_1 : ACode := (.seq (.region [(oP 4 (.mov (oc (-1))) 0)] 0)
 .ret)
def af_104 : AFun := ⟨19, [.inl 4], (.seq (.region [(oP 4 (.mov (oc 0)) 0)] 0)
 (.seq (.seq (.region [(oP 6 (.mov (o_ 0)) 0), (oP 7 (.len false (o_ 6)) 0), (oP 8 (.mov (oc 0)) 0)] 0)
 (.block 0 (.loop lp_104_0)))
 rs_104_1))⟩
def lp_61_0 : ACode := (.seq (.region [(oP 15 (.bin false .lss (o_ 14) (o_ 13)) 0)] 0)
 (.seq (.cond (o_ 15)
 .skip
 (.exit 0))
 (.seq (.block 1 (.seq (.region [(oP 16 (.iaddr 8 (o_ 12) (o_ 14)) 0), (oP 17 (.load (some 8) (o_ 16)) 0), (oP 7 (.zero [(.val (.int .i64 0)), (.val (.int .i64 0)), (.val (.int .i64 0)), (.val (.int .i64 0)), (.val (.int .i64 0)), (.val (.int .i64 0)), (.val (.int .i64 0)), (.val (.int .i64 0))]) 0), ⟨none, .store 8 (o_ 7) (o_ 17), none, 1, [], true, []⟩] 1)
 (.region [(oP 18 (.mov (o_ 5)) 0), (oP 19 (.load (some 8) (o_ 7)) 0), (oP 20 (.call 92 [(o_ 18), (o_ 19), (oc 1)]) 0)] 1)))
 (.region [(oP 21 (.bin false .add (o_ 14) (oc 1)) 0), (oP 14 (.mov (o_ 21)) 0)] 0))))
def rs_61_1 : ACode := (.seq (.region [(oP 22 (.mov (o_ 5)) 0), (oP 4 (.mov (o_ 22)) 0)] 0)
 .ret)
def af_61 : AFun := ⟨23, [.inl 4], (.seq (.region [(oP 2 (.box 4 (o_ 0)) 0), (oP 4 (.mov (.const (.slice none 0 0))) 1)] 1)
 (.seq (.region [(oP 8 (.faddr 2 (o_ 2)) 0), (oP 9 (.load none (o_ 8)) 0), (oP 10 (.len false (o_ 9)) 0), (oP 11 (.mkSlice 1 8 [(.val (.int .i64 0))] (o_ 10) (o_ 10)) 0), (oP 5 (.mov (o_ 11)) 1)] 1)
 (.seq (.seq (.region [(oP 12 (.mov (o_ 1)) 0), (oP 13 (.len false (o_ 12)) 0), (oP 14 (.mov (oc 0)) 0)] 0)
 (.block 0 (.loop lp_61_0)))
 rs_61_1)))⟩
def af_110 : AFun := ⟨11, [.inl 4], (.seq (.region [(oP 4 (.mov (.const (.bool false))) 0)] 0)
 (.seq (.region [(oP 5 (.mov (o_ 0)) 0), (oP 6 (.faddr 1 (o_ 1)) 0), (oP 7 (.load none (o_ 6)) 0), (oP 8 (.bin false .sub (o_ 5) (o_ 7)) 0), (oP 9 (.load none (o_ 2)) 0), (oP 10 (.bin false .lss (o_ 8) (o_ 9)) 0), (oP 4 (.mov (o_ 10)) 0)] 0)
 .ret))⟩
def lp_111_0 : ACode := (.seq (.seq (.region [(oP 16 (.mov (o_ 6)) 0), (oP 17 (.mov (o_ 0)) 0), (oP 18 (.len false (o_ 17)) 0), (oP 19 (.bin false .lss (o_ 16) (o_ 18)) 0)] 0)
 (.cond (o_ 19)
 .skip
 (.exit 0)))
 (.seq (.block 1 (.seq (.region [(oP 22 (.mov (o_ 0)) 0), (oP 23 (.mov (o_ 6)) 0), (oP 24 (.iaddr 1 (o_ 22) (o_ 23)) 0), (oP 25 (.load none (o_ 24)) 0), (oP 7 (.mov (o_ 25)) 0)] 0)
 (.seq (.region [(oP 26 (.mov (o_ 1)) 0), (oP 27 (.mov (o_ 7)) 0), (oP 28 (.callv (o_ 26) [(o_ 27)]) 0), (oP 29 (.un .not (o_ 28)) 1)] 1)
 (.cond (o_ 29)
 (.seq (.region [(oP 30 (.mov (o_ 0)) 0), (oP 31 (.mov (o_ 5)) 0), (oP 32 (.mov (o_ 7)) 0), (oP 33 (.iaddr 1 (o_ 30) (o_ 31)) 0), ⟨none, .store 1 (o_ 33) (o_ 32), none, 0, [], true, []⟩] 0)
 (.region [(oP 34 (.mov (o_ 5)) 0), (oP 35 (.bin false .add (o_ 34) (oc 1)) 0), (oP 5 (.mov (o_ 35)) 0)] 0))
 .skip))))
 (.region [(oP 20 (.mov (o_ 6)) 0), (oP 21 (.bin false .add (o_ 20) (oc 1)) 0), (oP 6 (.mov (o_ 21)) 0)] 0)))
def rs_111_1 : ACode := (.seq (.region [(oP 36 (.mov (o_ 0)) 0), (oP 37 (.mov (o_ 5)) 0), (oP 38 (.slice 1 (o_ 36) (some (o_ 37)) none none) 0), ⟨none, .clear 1 [(.val (.int .i64 0))] (o_ 38), none, 0, [], true, []⟩] 0)
 (.seq (.region [(oP 39 (.mov (o_ 0)) 0), (oP 40 (.mov (o_ 5)) 0), (oP 41 (.slice 1 (o_ 39) none (some (o_ 40)) none) 0), (oP 4 (.mov (o_ 41)) 0)] 0)
 .ret))
def af_111 : AFun := ⟨42, [.inl 4], (.seq (.region [(oP 4 (.mov (.const (.slice none 0 0))) 0)] 0)
 (.seq (.region [(oP 8 (.mov (o_ 0)) 0), (oP 9 (.mov (o_ 1)) 0), (oP 10 (.call 66 [(o_ 8), (o_ 9)]) 0), (oP 5 (.mov (o_ 10)) 1)] 1)
 (.seq (.seq (.region [(oP 11 (.mov (o_ 5)) 0), (oP 12 (.bin false .eql (o_ 11) (oc (-1))) 0)] 0)
 (.cond (o_ 12)
 (.seq (.region [(oP 13 (.mov (o_ 0)) 0), (oP 4 (.mov (o_ 13)) 0)] 0)
 .ret)
 .skip))
 (.seq (.seq (.region [(oP 14 (.mov (o_ 5)) 0), (oP 15 (.bin false .add (o_ 14) (oc 1)) 0), (oP 6 (.mov (o_ 15)) 0)] 0)
 (.block 0 (.loop lp_111_0)))
 rs_111_1))))⟩
def af_74 : AFun := ⟨9, [.inl 2], (.seq (.region [(oP 1 (.box 8 (o_ 0)) 0), (oP 2 (.mov (oc 0)) 1)] 1)
 (.seq (.region [⟨(some 3), .faddr 0 (o_ 1), none, 0, [3, 4], false, []⟩, ⟨(some 4), .faddr 6 (o_ 3), none, 1, [3, 4], false, []⟩, ⟨(some 5), .load none (o_ 4), none, 2, [3, 4], false, []⟩, ⟨(some 6), .load (some 8) (o_ 1), none, 3, [0, 1, 2], false, []⟩, ⟨(some 7), .call 99 [(o_ 6)], none, 4, [0, 1, 2], false, []⟩, (oP 8 (.bin false .mul (o_ 5) (o_ 7)) 5), (oP 2 (.mov (o_ 8)) 5)] 5)
 .ret))⟩
def rg_112_0 : List AOper := [⟨(some 8), .load none (o_ 2), none, 0, [4, 5, 6, 7, 8, 9, 12], false, []⟩, ⟨(some 9), .nilCheck (o_ 8), none, 1, [4, 5, 6, 7, 8, 9, 12], false, []⟩, ⟨(some 10), .faddr 4 (o_ 9), none, 2, [4, 5, 6, 7, 8, 9, 12], false, []⟩, ⟨(some 11), .load none (o_ 10), none, 3, [4, 5, 6, 7, 8, 9, 12], false, []⟩, ⟨(some 12), .load none (o_ 2), none, 4, [0, 1, 2, 3, 12], false, []⟩, ⟨(some 13), .nilCheck (o_ 12), none, 5, [0, 1, 2, 3, 12], false, []⟩, ⟨(some 14), .faddr 5 (o_ 13), none, 6, [0, 1, 2, 3, 12], false, []⟩, ⟨(some 15), .load none (o_ 14), none, 7, [0, 1, 2, 3, 12], false, []⟩, (oP 16 (.mov (o_ 1)) 8), ⟨(some 17), .iaddr 1 (o_ 15) (o_ 16), none, 8, [0, 1, 2, 3, 12], false, []⟩, ⟨(some 18), .load none (o_ 17), none, 9, [0, 1, 2, 3, 12], false, []⟩, ⟨(some 19), .iaddr 8 (o_ 11) (o_ 18), none, 10, [12], false, []⟩, ⟨(some 20), .load (some 8) (o_ 19), none, 11, [12], false, []⟩, ⟨(some 5), .zero [(.val (.int .i64 0)), (.val (.int .i64 0)), (.val (.int .i64 0)), (.val (.int .i64 0)), (.val (.int .i64 0)), (.val (.int .i64 0)), (.val (.int .i64 0)), (.val (.int .i64 0))], none, 12, [0, 1, 2, 3, 4, 5, 6, 7, 8, 9, 10, 11], false, []⟩, ⟨none, .store 8 (o_ 5) (o_ 20), none, 13, [], true, []⟩]
def rg_112_1 : List AOper := [(oP 23 (.load none (o_ 2)) 0), (oP 24 (.nilCheck (o_ 23)) 1), (oP 25 (.faddr 5 (o_ 24)) 2), (oP 26 (.load none (o_ 25)) 3), (oP 27 (.mov (o_ 1)) 4), (oP 28 (.slice 1 (o_ 26) none (some (o_ 27)) none) 4), (oP 29 (.mov (o_ 6)) 5), (oP 30 (.call 52 [(o_ 28), (o_ 29)]) 5), (oP 31 (.un .not (o_ 30)) 6), (oP 32 (.mov (o_ 31)) 6), ⟨(some 33), .load none (o_ 2), (some ((some 32), true)), 6, [10, 11, 12, 13], false, []⟩, ⟨(some 34), .nilCheck (o_ 33), (some ((some 32), true)), 7, [10, 11, 12, 13], false, []⟩, ⟨(some 35), .faddr 8 (o_ 34), (some ((some 32), true)), 8, [10, 11, 12, 13], false, []⟩, ⟨(some 36), .load none (o_ 35), (some ((some 32), true)), 9, [10, 11, 12, 13], false, []⟩, ⟨(some 37), .load (some 8) (o_ 5), (some ((some 32), true)), 10, [6, 7, 8, 9, 12, 13], false, []⟩, ⟨(some 38), .call 65 [(o_ 37)], (some ((some 32), true)), 11, [6, 7, 8, 9, 12, 13], false, []⟩, ⟨(some 39), .faddr 7 (o_ 5), (some ((some 32), true)), 12, [6, 7, 8, 9, 10, 11], false, []⟩, ⟨(some 40), .load none (o_ 39), (some ((some 32), true)), 13, [6, 7, 8, 9, 10, 11], false, []⟩, (oG 41 (.slice 1 (o_ 36) (some (o_ 38)) (some (o_ 40)) none) 32 true 14), (oG 42 (.mov (o_ 7)) 32 true 15), (oG 43 (.call 52 [(o_ 41), (o_ 42)]) 32 true 15), (oG 44 (.un .not (o_ 43)) 32 true 16), (oP 45 (.pick (o_ 32) (o_ 44) (.const (.bool false))) 16), (oP 4 (.mov (o_ 45)) 16)]
def af_112 : AFun := ⟨46, [.inl 4], (.seq (.region [(oP 2 (.box 1 (o_ 0)) 0), (oP 4 (.mov (.const (.bool false))) 1)] 1)
 (.seq (.region rg_112_0 14)
 (.seq (.region [(oP 21 (.mkFn 114 [] [(o_ 2), (o_ 5)]) 0), (oP 6 (.mov (o_ 21)) 0)] 0)
 (.seq (.region [(oP 22 (.mkFn 115 [] [(o_ 2)]) 0), (oP 7 (.mov (o_ 22)) 0)] 0)
 (.seq (.region rg_112_1 16)
 .ret)))))⟩
def lp_92_0 : ACode := (.seq (.seq (.region [(oP 9 (.mov (o_ 6)) 0), (oP 10 (.faddr 7 (o_ 4)) 0), (oP 11 (.load none (o_ 10)) 0), (oP 12 (.bin false .lss (o_ 9) (o_ 11)) 0)] 0)
 (.cond (o_ 12)
 .skip
 (.exit 0)))
 (.seq (.block 1 (.region [(oP 15 (.mov (o_ 0)) 0), (oP 16 (.mov (o_ 6)) 0), (oP 17 (.iaddr 1 (o_ 15) (o_ 16)) 0), (oP 18 (.load none (o_ 17)) 0), (oP 19 (.mov (o_ 2)) 0), (oP 20 (.bin false .add (o_ 18) (o_ 19)) 0), (oP 21 (.iaddr 1 (o_ 15) (o_ 16)) 0), ⟨none, .store 1 (o_ 21) (o_ 20), none, 0, [], true, []⟩] 0))
 (.region [(oP 13 (.mov (o_ 6)) 0), (oP 14 (.bin false .add (o_ 13) (oc 1)) 0), (oP 6 (.mov (o_ 14)) 0)] 0)))
def af_92 : AFun := ⟨22, [], (.seq (.region [(oP 4 (.box 8 (o_ 1)) 0)] 1)
 (.seq (.region [(oP 7 (.load (some 8) (o_ 4)) 0), (oP 8 (.call 65 [(o_ 7)]) 0), (oP 6 (.mov (o_ 8)) 1)] 1)
 (.block 0 (.loop lp_92_0))))⟩
def af_83 : AFun := ⟨11, [.inr (2, (some 4))], (.seq (.region [(oP 2 (.zero [(.val (.int .u8 0)), (.val (.int .i64 0)), (.val (.int .i64 0)), (.val (.int .i64 0))]) 0)] 1)
 (.seq (.seq (.region [(oP 4 (.mov (o_ 0)) 0), (oP 5 (.call 104 [(o_ 4), (.func 105)]) 0), (oP 3 (.mov (o_ 5)) 1)] 1)
 (.seq (.region [(oP 6 (.mov (o_ 3)) 0), (oP 7 (.bin false .geq (o_ 6) (oc 0)) 0)] 0)
 (.cond (o_ 7)
 (.seq (.region [(oP 8 (.mov (o_ 3)) 0), (oP 9 (.build [(.val (.int .u8 0)), (.val (.int .i64 0)), (.val (.int .i64 0)), (.val (.int .i64 0))] [(0, 1, (.const (.int .u8 1))), (1, 1, (o_ 8))]) 0), ⟨none, .store 4 (o_ 2) (o_ 9), none, 0, [], true, []⟩] 0)
 .ret)
 .skip)))
 (.seq (.region [(oP 10 (.build [(.val (.int .u8 0)), (.val (.int .i64 0)), (.val (.int .i64 0)), (.val (.int .i64 0))] []) 0), ⟨none, .store 4 (o_ 2) (o_ 10), none, 0, [], true, []⟩] 0)
 .ret)))⟩
def lp_85_0 : ACode := (.seq (.region [(oP 22 (.bin false .lss (o_ 21) (o_ 20)) 0)] 0)
 (.seq (.cond (o_ 22)
 .skip
 (.exit 2))
 (.seq (.block 3 (.seq (.region [(oP 23 (.mov (o_ 21)) 0), (oP 9 (.mov (o_ 23)) 0)] 0)
 (.seq (.region [(oP 24 (.faddr 7 (o_ 8)) 0), (oP 25 (.load none (o_ 24)) 0), (oP 26 (.mov (o_ 9)) 0), (oP 27 (.bin false .add (o_ 25) (o_ 26)) 0), (oP 10 (.mov (o_ 27)) 0)] 0)
 (.seq (.region [(oP 28 (.mov (o_ 2)) 0), (oP 29 (.load (some 8) (o_ 8)) 0), (oP 30 (.mov (o_ 10)) 0), (oP 31 (.callv (o_ 28) [(o_ 29), (o_ 30)]) 0)] 1)
 (.cond (o_ 31)
 (.seq (.region [(oP 32 (.mov (o_ 1)) 0), (oP 33 (.mov (o_ 7)) 0), (oP 34 (.mov (o_ 10)) 0), (oP 35 (.build [(.val (.int .u8 0)), (.val (.int .i64 0)), (.val (.int .i64 0)), (.val (.int .i64 0))] [(0, 1, (o_ 32)), (1, 1, (o_ 33)), (3, 1, (o_ 34))]) 0), ⟨none, .store 4 (o_ 6) (o_ 35), none, 0, [], true, []⟩] 0)
 .ret)
 .skip)))))
 (.region [(oP 36 (.bin false .add (o_ 21) (oc 1)) 0), (oP 21 (.mov (o_ 36)) 0)] 0))))
def rs_85_1 : ACode := (.region [(oP 37 (.bin false .add (o_ 13) (oc 1)) 0), (oP 13 (.mov (o_ 37)) 0)] 0)
def lp_85_2 : ACode := (.seq (.region [(oP 14 (.bin false .lss (o_ 13) (o_ 12)) 0)] 0)
 (.seq (.cond (o_ 14)
 .skip
 (.exit 0))
 (.seq (.block 1 (.seq (.region [(oP 15 (.mov (o_ 13)) 0), (oP 16 (.iaddr 8 (o_ 11) (o_ 13)) 0), (oP 17 (.load (some 8) (o_ 16)) 0), (oP 8 (.zero [(.val (.int .i64 0)), (.val (.int .i64 0)), (.val (.int .i64 0)), (.val (.int .i64 0)), (.val (.int .i64 0)), (.val (.int .i64 0)), (.val (.int .i64 0)), (.val (.int .i64 0))]) 0), (oP 7 (.mov (o_ 15)) 1), ⟨none, .store 8 (o_ 8) (o_ 17), none, 1, [], true, []⟩] 1)
 (.seq (.region [(oP 18 (.faddr 0 (o_ 8)) 0), (oP 19 (.faddr 2 (o_ 18)) 0), (oP 20 (.load none (o_ 19)) 0), (oP 21 (.mov (oc 0)) 0)] 0)
 (.block 2 (.loop lp_85_0)))))
 rs_85_1)))
def rs_85_3 : ACode := (.seq (.region [(oP 38 (.build [(.val (.int .u8 0)), (.val (.int .i64 0)), (.val (.int .i64 0)), (.val (.int .i64 0))] []) 0), ⟨none, .store 4 (o_ 6) (o_ 38), none, 0, [], true, []⟩] 0)
 .ret)
def af_85 : AFun := ⟨39, [.inr (6, (some 4))], (.seq (.region [(oP 6 (.zero [(.val (.int .u8 0)), (.val (.int .i64 0)), (.val (.int .i64 0)), (.val (.int .i64 0))]) 0)] 1)
 (.seq (.seq (.region [(oP 11 (.mov (o_ 0)) 0), (oP 12 (.len false (o_ 11)) 0), (oP 13 (.mov (oc 0)) 0)] 0)
 (.block 0 (.loop lp_85_2)))
 rs_85_3))⟩
def lp_88_0 : ACode := (.seq (.seq (.region [(oP 17 (.mov (o_ 7)) 0), (oP 18 (.mov (o_ 1)) 0), (oP 19 (.len false (o_ 18)) 0), (oP 20 (.bin false .lss (o_ 17) (o_ 19)) 0)] 0)
 (.cond (o_ 20)
 .skip
 (.exit 2)))
 (.seq (.block 3 (.seq (.region [⟨(some 23), .load (some 4) (o_ 2), none, 0, [1, 2, 3], false, []⟩, ⟨(some 24), .load (some 8) (o_ 6), none, 1, [0, 2, 3], false, []⟩, (oP 25 (.mov (o_ 1)) 2), (oP 26 (.mov (o_ 7)) 2), ⟨(some 27), .iaddr 8 (o_ 25) (o_ 26), none, 2, [0, 1], false, []⟩, ⟨(some 28), .load (some 8) (o_ 27), none, 3, [0, 1], false, []⟩, (oP 29 (.call 106 [(o_ 23), (o_ 24), (o_ 28)]) 4)] 5)
 (.cond (o_ 29)
 (.seq (.region [(oP 30 (.mov (o_ 5)) 0), (oP 31 (.mov (o_ 7)) 0), (oP 32 (.build [(.val (.int .u8 0)), (.val (.int .i64 0)), (.val (.int .i64 0)), (.val (.int .i64 0))] [(0, 1, (.const (.int .u8 4))), (1, 1, (o_ 30)), (2, 1, (o_ 31))]) 0), ⟨none, .store 4 (o_ 4) (o_ 32), none, 0, [], true, []⟩] 0)
 .ret)
 .skip)))
 (.region [(oP 21 (.mov (o_ 7)) 0), (oP 22 (.bin false .add (o_ 21) (oc 1)) 0), (oP 7 (.mov (o_ 22)) 0)] 0)))
def rs_88_1 : ACode := (.region [(oP 33 (.bin false .add (o_ 10) (oc 1)) 0), (oP 10 (.mov (o_ 33)) 0)] 0)
def lp_88_2 : ACode := (.seq (.region [(oP 11 (.bin false .lss (o_ 10) (o_ 9)) 0)] 0)
 (.seq (.cond (o_ 11)
 .skip
 (.exit 0))
 (.seq (.block 1 (.seq (.region [(oP 12 (.mov (o_ 10)) 0), (oP 13 (.iaddr 8 (o_ 8) (o_ 10)) 0), (oP 14 (.load (some 8) (o_ 13)) 0), (oP 6 (.zero [(.val (.int .i64 0)), (.val (.int .i64 0)), (.val (.int .i64 0)), (.val (.int .i64 0)), (.val (.int .i64 0)), (.val (.int .i64 0)), (.val (.int .i64 0)), (.val (.int .i64 0))]) 0), (oP 5 (.mov (o_ 12)) 1), ⟨none, .store 8 (o_ 6) (o_ 14), none, 1, [], true, []⟩] 1)
 (.seq (.region [(oP 15 (.mov (o_ 5)) 0), (oP 16 (.bin false .add (o_ 15) (oc 1)) 0), (oP 7 (.mov (o_ 16)) 0)] 0)
 (.block 2 (.loop lp_88_0)))))
 rs_88_1)))
def rs_88_3 : ACode := (.seq (.region [(oP 34 (.build [(.val (.int .u8 0)), (.val (.int .i64 0)), (.val (.int .i64 0)), (.val (.int .i64 0))] []) 0), ⟨none, .store 4 (o_ 4) (o_ 34), none, 0, [], true, []⟩] 0)
 .ret)
def af_88 : AFun := ⟨35, [.inr (4, (some 4))], (.seq (.region [(oP 2 (.box 4 (o_ 0)) 0), (oP 4 (.zero [(.val (.int .u8 0)), (.val (.int .i64 0)), (.val (.int .i64 0)), (.val (.int .i64 0))]) 1)] 2)
 (.seq (.seq (.region [(oP 8 (.mov (o_ 1)) 0), (oP 9 (.len false (o_ 8)) 0), (oP 10 (.mov (oc 0)) 0)] 0)
 (.block 0 (.loop lp_88_2)))
 rs_88_3))⟩
def af_90 : AFun := ⟨18, [.inr (4, (some 4))], (.seq (.region [(oP 2 (.box 4 (o_ 0)) 0), (oP 4 (.zero [(.val (.int .u8 0)), (.val (.int .i64 0)), (.val (.int .i64 0)), (.val (.int .i64 0))]) 1)] 2)
 (.seq (.region [(oP 7 (.mkFn 107 [] [(o_ 2)]) 0), (oP 5 (.mov (o_ 7)) 0)] 0)
 (.seq (.seq (.region [(oP 8 (.load (some 4) (o_ 2)) 0), (oP 9 (.mov (o_ 1)) 0), (oP 10 (.call 61 [(o_ 8), (o_ 9)]) 0), (oP 11 (.mov (o_ 5)) 1), (oP 12 (.call 66 [(o_ 10), (o_ 11)]) 1), (oP 6 (.mov (o_ 12)) 2)] 2)
 (.seq (.region [(oP 13 (.mov (o_ 6)) 0), (oP 14 (.bin false .geq (o_ 13) (oc 0)) 0)] 0)
 (.cond (o_ 14)
 (.seq (.region [(oP 15 (.mov (o_ 6)) 0), (oP 16 (.build [(.val (.int .u8 0)), (.val (.int .i64 0)), (.val (.int .i64 0)), (.val (.int .i64 0))] [(0, 1, (.const (.int .u8 5))), (3, 1, (o_ 15))]) 0), ⟨none, .store 4 (o_ 4) (o_ 16), none, 0, [], true, []⟩] 0)
 .ret)
 .skip)))
 (.seq (.region [(oP 17 (.build [(.val (.int .u8 0)), (.val (.int .i64 0)), (.val (.int .i64 0)), (.val (.int .i64 0))] []) 0), ⟨none, .store 4 (o_ 4) (o_ 17), none, 0, [], true, []⟩] 0)
 .ret))))⟩
def af_99 : AFun := ⟨9, [.inl 2], (.seq (.region [(oP 1 (.box 8 (o_ 0)) 0), (oP 2 (.mov (oc 0)) 1)] 1)
 (.seq (.region [(oP 3 (.faddr 7 (o_ 1)) 0), (oP 4 (.load none (o_ 3)) 0), (oP 5 (.faddr 0 (o_ 1)) 0), (oP 6 (.faddr 2 (o_ 5)) 0), (oP 7 (.load none (o_ 6)) 0), (oP 8 (.bin false .add (o_ 4) (o_ 7)) 0), (oP 2 (.mov (o_ 8)) 0)] 0)
 .ret))⟩
def af_65 : AFun := ⟨9, [.inl 2], (.seq (.region [(oP 1 (.box 8 (o_ 0)) 0), (oP 2 (.mov (oc 0)) 1)] 1)
 (.seq (.region [(oP 3 (.faddr 7 (o_ 1)) 0), (oP 4 (.load none (o_ 3)) 0), (oP 5 (.faddr 0 (o_ 1)) 0), (oP 6 (.faddr 1 (o_ 5)) 0), (oP 7 (.load none (o_ 6)) 0), (oP 8 (.bin false .sub (o_ 4) (o_ 7)) 0), (oP 2 (.mov (o_ 8)) 0)] 0)
 .ret))⟩
def lp_66_0 : ACode := (.seq (.region [(oP 9 (.bin false .lss (o_ 8) (o_ 7)) 0)] 0)
 (.seq (.cond (o_ 9)
 .skip
 (.exit 0))
 (.seq (.block 1 (.seq (.region [(oP 10 (.mov (o_ 8)) 0), (oP 5 (.mov (o_ 10)) 0)] 0)
 (.seq (.region [(oP 11 (.mov (o_ 1)) 0), (oP 12 (.mov (o_ 0)) 0), (oP 13 (.mov (o_ 5)) 0), (oP 14 (.iaddr 1 (o_ 12) (o_ 13)) 0), (oP 15 (.load none (o_ 14)) 0), (oP 16 (.callv (o_ 11) [(o_ 15)]) 0)] 1)
 (.cond (o_ 16)
 (.seq (.region [(oP 17 (.mov (o_ 5)) 0), (oP 4 (.mov (o_ 17)) 0)] 0)
 .ret)
 .skip))))
 (.region [(oP 18 (.bin false .add (o_ 8) (oc 1)) 0), (oP 8 (.mov (o_ 18)) 0)] 0))))
def rs_66_1 : ACode := (.seq (.region [(oP 4 (.mov (oc (-1))) 0)] 0)
 .ret)
def af_66 : AFun := ⟨19, [.inl 4], (.seq (.region [(oP 4 (.mov (oc 0)) 0)] 0)
 (.seq (.seq (.region [(oP 6 (.mov (o_ 0)) 0), (oP 7 (.len false (o_ 6)) 0), (oP 8 (.mov (oc 0)) 0)] 0)
 (.block 0 (.loop lp_66_0)))
 rs_66_1))⟩
def rg_114_0 : List AOper := [⟨(some 5), .load none (o_ 1), none, 0, [4, 5, 6, 7, 8, 9, 10], false, []⟩, ⟨(some 6), .nilCheck (o_ 5), none, 1, [4, 5, 6, 7, 8, 9, 10], false, []⟩, ⟨(some 7), .faddr 0 (o_ 6), none, 2, [4, 5, 6, 7, 8, 9, 10], false, []⟩, ⟨(some 8), .load (some 4) (o_ 7), none, 3, [4, 5, 6, 7, 8, 9, 10], false, []⟩, ⟨(some 9), .load (some 8) (o_ 2), none, 4, [0, 1, 2, 3, 5, 6, 7, 8, 9, 10], false, []⟩, ⟨(some 10), .load none (o_ 1), none, 5, [0, 1, 2, 3, 4], false, []⟩, ⟨(some 11), .nilCheck (o_ 10), none, 6, [0, 1, 2, 3, 4], false, []⟩, ⟨(some 12), .faddr 4 (o_ 11), none, 7, [0, 1, 2, 3, 4], false, []⟩, ⟨(some 13), .load none (o_ 12), none, 8, [0, 1, 2, 3, 4], false, []⟩, (oP 14 (.mov (o_ 0)) 9), ⟨(some 15), .iaddr 8 (o_ 13) (o_ 14), none, 9, [0, 1, 2, 3, 4], false, []⟩, ⟨(some 16), .load (some 8) (o_ 15), none, 10, [0, 1, 2, 3, 4], false, []⟩, (oP 17 (.call 106 [(o_ 8), (o_ 9), (o_ 16)]) 11), (oP 4 (.mov (o_ 17)) 12)]
def af_114 : AFun := ⟨18, [.inl 4], (.seq (.region [(oP 4 (.mov (.const (.bool false))) 0)] 0)
 (.seq (.region rg_114_0 12)
 .ret))⟩
def af_115 : AFun := ⟨11, [.inl 3], (.seq (.region [(oP 3 (.mov (.const (.bool false))) 0)] 0)
 (.seq (.region [(oP 4 (.mov (o_ 0)) 0), (oP 5 (.load none (o_ 1)) 0), (oP 6 (.nilCheck (o_ 5)) 0), (oP 7 (.faddr 0 (o_ 6)) 0), (oP 8 (.faddr 0 (o_ 7)) 0), (oP 9 (.load none (o_ 8)) 0), (oP 10 (.bin false .geq (o_ 4) (o_ 9)) 0), (oP 3 (.mov (o_ 10)) 0)] 0)
 .ret))⟩
def rg_105_0 : List AOper := [(oP 3 (.faddr 7 (o_ 1)) 0), (oP 4 (.load none (o_ 3)) 0), (oP 5 (.faddr 0 (o_ 1)) 0), (oP 6 (.faddr 4 (o_ 5)) 0), (oP 7 (.load none (o_ 6)) 0), (oP 8 (.faddr 0 (o_ 1)) 0), (oP 9 (.faddr 1 (o_ 8)) 0), (oP 10 (.load none (o_ 9)) 0), (oP 11 (.bin false .add (o_ 7) (o_ 10)) 0), (oP 12 (.bin false .lss (o_ 4) (o_ 11)) 0), (oP 13 (.mov (o_ 12)) 0), (oG 14 (.faddr 7 (o_ 1)) 13 false 0), (oG 15 (.load none (o_ 14)) 13 false 0), (oG 16 (.faddr 0 (o_ 1)) 13 false 0), (oG 17 (.faddr 5 (o_ 16)) 13 false 0), (oG 18 (.load none (o_ 17)) 13 false 0), (oG 19 (.faddr 0 (o_ 1)) 13 false 0), (oG 20 (.faddr 2 (o_ 19)) 13 false 0), (oG 21 (.load none (o_ 20)) 13 false 0), (oG 22 (.bin false .sub (o_ 18) (o_ 21)) 13 false 0), (oG 23 (.bin false .gtr (o_ 15) (o_ 22)) 13 false 0), (oP 24 (.pick (o_ 13) (.const (.bool true)) (o_ 23)) 0), (oP 2 (.mov (o_ 24)) 0)]
def af_105 : AFun := ⟨25, [.inl 2], (.seq (.region [(oP 1 (.box 8 (o_ 0)) 0), (oP 2 (.mov (.const (.bool false))) 1)] 1)
 (.seq (.region rg_105_0 0)
 .ret))⟩
def rg_106_0 : List AOper := [⟨(some 17), .faddr 7 (o_ 4), none, 0, [2, 3], false, []⟩, ⟨(some 18), .load none (o_ 17), none, 1, [2, 3], false, []⟩, ⟨(some 19), .load (some 8) (o_ 5), none, 2, [0, 1], false, []⟩, ⟨(some 20), .call 99 [(o_ 19)], none, 3, [0, 1], false, []⟩, (oP 21 (.mov (o_ 7)) 4), (oP 22 (.bin false .add (o_ 20) (o_ 21)) 4), (oP 23 (.bin false .lss (o_ 18) (o_ 22)) 4), (oP 24 (.mov (o_ 23)) 4), ⟨(some 25), .faddr 7 (o_ 5), (some ((some 24), true)), 4, [6, 7], false, []⟩, ⟨(some 26), .load none (o_ 25), (some ((some 24), true)), 5, [6, 7], false, []⟩, ⟨(some 27), .load (some 8) (o_ 4), (some ((some 24), true)), 6, [4, 5], false, []⟩, ⟨(some 28), .call 99 [(o_ 27)], (some ((some 24), true)), 7, [4, 5], false, []⟩, (oG 29 (.mov (o_ 7)) 24 true 8), (oG 30 (.bin false .add (o_ 28) (o_ 29)) 24 true 8), (oG 31 (.bin false .lss (o_ 26) (o_ 30)) 24 true 8), (oP 32 (.pick (o_ 24) (o_ 31) (.const (.bool false))) 8), (oP 6 (.mov (o_ 32)) 8)]
def af_106 : AFun := ⟨33, [.inl 6], (.seq (.region [(oP 3 (.box 4 (o_ 0)) 0), (oP 4 (.box 8 (o_ 1)) 1), (oP 5 (.box 8 (o_ 2)) 2), (oP 6 (.mov (.const (.bool false))) 3)] 3)
 (.seq (.region [(oP 7 (.mov (oc 0)) 0)] 0)
 (.seq (.seq (.region [(oP 8 (.faddr 0 (o_ 4)) 0), (oP 9 (.faddr 0 (o_ 8)) 0), (oP 10 (.load none (o_ 9)) 0), (oP 11 (.faddr 0 (o_ 5)) 0), (oP 12 (.faddr 0 (o_ 11)) 0), (oP 13 (.load none (o_ 12)) 0), (oP 14 (.bin false .neq (o_ 10) (o_ 13)) 0)] 0)
 (.cond (o_ 14)
 (.region [(oP 15 (.faddr 1 (o_ 3)) 0), (oP 16 (.load none (o_ 15)) 0), (oP 7 (.mov (o_ 16)) 0)] 0)
 .skip))
 (.seq (.region rg_106_0 8)
 .ret))))⟩
def af_107 : AFun := ⟨8, [.inl 3], (.seq (.region [(oP 3 (.mov (.const (.bool false))) 0)] 0)
 (.seq (.region [(oP 4 (.mov (o_ 0)) 0), (oP 5 (.faddr 0 (o_ 1)) 0), (oP 6 (.load none (o_ 5)) 0), (oP 7 (.bin false .gtr (o_ 4) (o_ 6)) 0), (oP 3 (.mov (o_ 7)) 0)] 0)
 .ret))⟩
/-- functions by their numbers -/
inductive FT where
  | leaf
  | node (l : FT) (k : Nat) (af : AFun) (r : FT)
def FT.find : FT → Nat → Option AFun
  | .leaf, _ => none
  | .node l k af r, f => bif Nat.beq f k then some af else bif Nat.ble f k then l.find f else r.find f
def FT.Good (P : Program) : FT → Prop
  | .leaf => True
  | .node l k af r => l.Good P ∧ compF P k = some af ∧ r.Good P
theorem FT.found {P : Program} : ∀ (t : FT), t.Good P → ∀ f fn, t.find f = some fn → compF P f = some fn
  | .leaf, _, f, fn, h => by cases h
  | .node l k af r, hg, f, fn, h => by
    simp only [FT.find] at h
    cases h1 : Nat.beq f k with
    | true =>
      rw [h1] at h
      obtain rfl := Nat.eq_of_beq_eq_true h1
      cases h
      exact hg.2.1
    | false =>
      rw [h1] at h
      cases h2 : Nat.ble f k with
      | true => rw [h2] at h; exact FT.found l hg.1 f fn h
      | false => rw [h2] at h; exact FT.found r hg.2.2 f fn h
def tree : FT := (.node (.node (.node (.node (.node (.node (.node .leaf 5 af_5 .leaf) 12 af_12 .leaf) 13 af_13 (.node .leaf 14 af_14 .leaf)) 15 af_15 (.node (.node (.node .leaf 16 af_16 .leaf) 17 af_17 .leaf) 18 af_18 (.node .leaf 19 af_19 .leaf))) 20 af_20 (.node (.node (.node (.node .leaf 21 af_21 .leaf) 25 af_25 .leaf) 26 af_26 (.node .leaf 27 af_27 .leaf)) 31 af_31 (.node (.node (.node .leaf 33 af_33 .leaf) 40 af_40 .leaf) 42 af_42 (.node .leaf 47 af_47 .leaf)))) 48 af_48 (.node (.node (.node (.node (.node .leaf 49 af_49 .leaf) 50 af_50 .leaf) 51 af_51 (.node .leaf 52 af_52 .leaf)) 53 af_53 (.node (.node (.node .leaf 54 af_54 .leaf) 55 af_55 .leaf) 56 af_56 (.node .leaf 57 af_57 .leaf))) 58 af_58 (.node (.node (.node (.node .leaf 59 af_59 .leaf) 60 af_60 .leaf) 61 af_61 (.node .leaf 65 af_65 .leaf)) 66 af_66 (.node (.node .leaf 68 af_68 .leaf) 69 af_69 (.node .leaf 70 af_70 .leaf))))) 71 af_71 (.node (.node (.node (.node (.node (.node .leaf 72 af_72 .leaf) 73 af_73 .leaf) 74 af_74 (.node .leaf 76 af_76 .leaf)) 78 af_78 (.node (.node (.node .leaf 79 af_79 .leaf) 80 af_80 .leaf) 81 af_81 (.node .leaf 82 af_82 .leaf))) 83 af_83 (.node (.node (.node (.node .leaf 84 af_84 .leaf) 85 af_85 .leaf) 86 af_86 (.node .leaf 87 af_87 .leaf)) 88 af_88 (.node (.node .leaf 89 af_89 .leaf) 90 af_90 (.node .leaf 91 af_91 .leaf)))) 92 af_92 (.node (.node (.node (.node (.node .leaf 95 af_95 .leaf) 96 af_96 .leaf) 97 af_97 (.node .leaf 98 af_98 .leaf)) 99 af_99 (.node (.node (.node .leaf 100 af_100 .leaf) 101 af_101 .leaf) 102 af_102 (.node .leaf 103 af_103 .leaf))) 104 af_104 (.node (.node (.node (.node .leaf 105 af_105 .leaf) 106 af_106 .leaf) 107 af_107 (.node .leaf 110 af_110 .leaf)) 111 af_111 (.node (.node .leaf 112 af_112 .leaf) 114 af_114 (.node .leaf 115 af_115 .leaf))))))
end Go.Ev
