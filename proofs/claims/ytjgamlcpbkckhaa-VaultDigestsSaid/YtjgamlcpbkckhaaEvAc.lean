import Derived.Test.YtjgamlcpbkckhaaEvAf
import Derived.Test.YtjgamlcpbkckhaaProg
import Derived.KernelRfl
set_option linter.all false
namespace Go.Ev
set_option linter.all false
theorem cf_3 : compF Go.Proofs.Try.prog 3 = some af_3 := by kernel_rfl
theorem cf_4 : compF Go.Proofs.Try.prog 4 = some af_4 := by kernel_rfl
theorem cf_5 : compF Go.Proofs.Try.prog 5 = some af_5 := by kernel_rfl
theorem cf_6 : compF Go.Proofs.Try.prog 6 = some af_6 := by kernel_rfl
theorem cf_7 : compF Go.Proofs.Try.prog 7 = some af_7 := by kernel_rfl
theorem cf_8 : compF Go.Proofs.Try.prog 8 = some af_8 := by kernel_rfl
theorem cf_9 : compF Go.Proofs.Try.prog 9 = some af_9 := by kernel_rfl
theorem cf_10 : compF Go.Proofs.Try.prog 10 = some af_10 := by kernel_rfl
theorem cf_11 : compF Go.Proofs.Try.prog 11 = some af_11 := by kernel_rfl
theorem cf_12 : compF Go.Proofs.Try.prog 12 = some af_12 := by kernel_rfl
theorem cf_13 : compF Go.Proofs.Try.prog 13 = some af_13 := by kernel_rfl
theorem cf_14 : compF Go.Proofs.Try.prog 14 = some af_14 := by kernel_rfl
theorem cf_15 : compF Go.Proofs.Try.prog 15 = some af_15 := by kernel_rfl
theorem cf_16 : compF Go.Proofs.Try.prog 16 = some af_16 := by kernel_rfl
theorem cf_17 : compF Go.Proofs.Try.prog 17 = some af_17 := by kernel_rfl
theorem cf_18 : compF Go.Proofs.Try.prog 18 = some af_18 := by kernel_rfl
theorem cf_19 : compF Go.Proofs.Try.prog 19 = some af_19 := by kernel_rfl
theorem cf_20 : compF Go.Proofs.Try.prog 20 = some af_20 := by kernel_rfl
theorem cf_21 : compF Go.Proofs.Try.prog 21 = some af_21 := by kernel_rfl
theorem cf_22 : compF Go.Proofs.Try.prog 22 = some af_22 := by kernel_rfl
theorem cf_23 : compF Go.Proofs.Try.prog 23 = some af_23 := by kernel_rfl
theorem cf_24 : compF Go.Proofs.Try.prog 24 = some af_24 := by kernel_rfl
theorem cf_25 : compF Go.Proofs.Try.prog 25 = some af_25 := by kernel_rfl
theorem cf_26 : compF Go.Proofs.Try.prog 26 = some af_26 := by kernel_rfl
theorem cf_27 : compF Go.Proofs.Try.prog 27 = some af_27 := by kernel_rfl
theorem cf_28 : compF Go.Proofs.Try.prog 28 = some af_28 := by kernel_rfl
theorem cf_29 : compF Go.Proofs.Try.prog 29 = some af_29 := by kernel_rfl
theorem cf_30 : compF Go.Proofs.Try.prog 30 = some af_30 := by kernel_rfl
theorem cf_31 : compF Go.Proofs.Try.prog 31 = some af_31 := by kernel_rfl
theorem cf_32 : compF Go.Proofs.Try.prog 32 = some af_32 := by kernel_rfl
theorem cf_33 : compF Go.Proofs.Try.prog 33 = some af_33 := by kernel_rfl
theorem cf_34 : compF Go.Proofs.Try.prog 34 = some af_34 := by kernel_rfl
theorem cf_35 : compF Go.Proofs.Try.prog 35 = some af_35 := by kernel_rfl
theorem cf_36 : compF Go.Proofs.Try.prog 36 = some af_36 := by kernel_rfl
theorem cf_37 : compF Go.Proofs.Try.prog 37 = some af_37 := by kernel_rfl
theorem cf_38 : compF Go.Proofs.Try.prog 38 = some af_38 := by kernel_rfl
theorem cf_39 : compF Go.Proofs.Try.prog 39 = some af_39 := by kernel_rfl
theorem cf_40 : compF Go.Proofs.Try.prog 40 = some af_40 := by kernel_rfl
theorem cf_41 : compF Go.Proofs.Try.prog 41 = some af_41 := by kernel_rfl
theorem cf_42 : compF Go.Proofs.Try.prog 42 = some af_42 := by kernel_rfl
theorem cf_43 : compF Go.Proofs.Try.prog 43 = some af_43 := by kernel_rfl
theorem cf_44 : compF Go.Proofs.Try.prog 44 = some af_44 := by kernel_rfl
theorem cf_45 : compF Go.Proofs.Try.prog 45 = some af_45 := by kernel_rfl
theorem cf_46 : compF Go.Proofs.Try.prog 46 = some af_46 := by kernel_rfl
theorem cf_47 : compF Go.Proofs.Try.prog 47 = some af_47 := by kernel_rfl
theorem cf_48 : compF Go.Proofs.Try.prog 48 = some af_48 := by kernel_rfl
theorem cf_49 : compF Go.Proofs.Try.prog 49 = some af_49 := by kernel_rfl
theorem cf_50 : compF Go.Proofs.Try.prog 50 = some af_50 := by kernel_rfl
theorem cf_51 : compF Go.Proofs.Try.prog 51 = some af_51 := by kernel_rfl
theorem cf_52 : compF Go.Proofs.Try.prog 52 = some af_52 := by kernel_rfl
theorem cf_53 : compF Go.Proofs.Try.prog 53 = some af_53 := by kernel_rfl
theorem cf_54 : compF Go.Proofs.Try.prog 54 = some af_54 := by kernel_rfl
theorem cf_55 : compF Go.Proofs.Try.prog 55 = some af_55 := by kernel_rfl
theorem cf_56 : compF Go.Proofs.Try.prog 56 = some af_56 := by kernel_rfl
theorem cf_57 : compF Go.Proofs.Try.prog 57 = some af_57 := by kernel_rfl
theorem cf_58 : compF Go.Proofs.Try.prog 58 = some af_58 := by kernel_rfl
theorem cf_59 : compF Go.Proofs.Try.prog 59 = some af_59 := by kernel_rfl
theorem cf_60 : compF Go.Proofs.Try.prog 60 = some af_60 := by kernel_rfl
theorem cf_61 : compF Go.Proofs.Try.prog 61 = some af_61 := by kernel_rfl
theorem cf_62 : compF Go.Proofs.Try.prog 62 = some af_62 := by kernel_rfl
theorem cf_63 : compF Go.Proofs.Try.prog 63 = some af_63 := by kernel_rfl
theorem cf_64 : compF Go.Proofs.Try.prog 64 = some af_64 := by kernel_rfl
theorem cf_66 : compF Go.Proofs.Try.prog 66 = some af_66 := by kernel_rfl
theorem cf_67 : compF Go.Proofs.Try.prog 67 = some af_67 := by kernel_rfl
theorem cf_69 : compF Go.Proofs.Try.prog 69 = some af_69 := by kernel_rfl
theorem tree_good : tree.Good Go.Proofs.Try.prog := ⟨⟨⟨⟨⟨⟨⟨trivial, cf_3, trivial⟩, cf_4, trivial⟩, cf_5, ⟨trivial, cf_6, trivial⟩⟩, cf_7, ⟨⟨trivial, cf_8, trivial⟩, cf_9, ⟨trivial, cf_10, trivial⟩⟩⟩, cf_11, ⟨⟨⟨trivial, cf_12, trivial⟩, cf_13, ⟨trivial, cf_14, trivial⟩⟩, cf_15, ⟨⟨trivial, cf_16, trivial⟩, cf_17, ⟨trivial, cf_18, trivial⟩⟩⟩⟩, cf_19, ⟨⟨⟨⟨trivial, cf_20, trivial⟩, cf_21, ⟨trivial, cf_22, trivial⟩⟩, cf_23, ⟨⟨trivial, cf_24, trivial⟩, cf_25, ⟨trivial, cf_26, trivial⟩⟩⟩, cf_27, ⟨⟨⟨trivial, cf_28, trivial⟩, cf_29, ⟨trivial, cf_30, trivial⟩⟩, cf_31, ⟨⟨trivial, cf_32, trivial⟩, cf_33, ⟨trivial, cf_34, trivial⟩⟩⟩⟩⟩, cf_35, ⟨⟨⟨⟨⟨⟨trivial, cf_36, trivial⟩, cf_37, trivial⟩, cf_38, ⟨trivial, cf_39, trivial⟩⟩, cf_40, ⟨⟨trivial, cf_41, trivial⟩, cf_42, ⟨trivial, cf_43, trivial⟩⟩⟩, cf_44, ⟨⟨⟨trivial, cf_45, trivial⟩, cf_46, ⟨trivial, cf_47, trivial⟩⟩, cf_48, ⟨⟨trivial, cf_49, trivial⟩, cf_50, ⟨trivial, cf_51, trivial⟩⟩⟩⟩, cf_52, ⟨⟨⟨⟨trivial, cf_53, trivial⟩, cf_54, ⟨trivial, cf_55, trivial⟩⟩, cf_56, ⟨⟨trivial, cf_57, trivial⟩, cf_58, ⟨trivial, cf_59, trivial⟩⟩⟩, cf_60, ⟨⟨⟨trivial, cf_61, trivial⟩, cf_62, ⟨trivial, cf_63, trivial⟩⟩, cf_64, ⟨⟨trivial, cf_66, trivial⟩, cf_67, ⟨trivial, cf_69, trivial⟩⟩⟩⟩⟩⟩
end Go.Ev
