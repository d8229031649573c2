import Derived.Test.YtmekepomgofiaaaEvAf
import Derived.Test.YtmekepomgofiaaaProg
import Derived.KernelRfl
set_option linter.all false
namespace Go.Ev
set_option linter.all false
theorem cf_7 : compF Go.Proofs.Try.prog 7 = some af_7 := by kernel_rfl
theorem cf_12 : compF Go.Proofs.Try.prog 12 = some af_12 := by kernel_rfl
theorem cf_13 : compF Go.Proofs.Try.prog 13 = some af_13 := by kernel_rfl
theorem cf_14 : compF Go.Proofs.Try.prog 14 = some af_14 := by kernel_rfl
theorem cf_15 : compF Go.Proofs.Try.prog 15 = some af_15 := by kernel_rfl
theorem cf_16 : compF Go.Proofs.Try.prog 16 = some af_16 := by kernel_rfl
theorem cf_17 : compF Go.Proofs.Try.prog 17 = some af_17 := by kernel_rfl
theorem cf_18 : compF Go.Proofs.Try.prog 18 = some af_18 := by kernel_rfl
theorem cf_19 : compF Go.Proofs.Try.prog 19 = some af_19 := by kernel_rfl
theorem cf_20 : compF Go.Proofs.Try.prog 20 = some af_20 := by kernel_rfl
theorem cf_21 : compF Go.Proofs.Try.prog 21 = some af_21 := by kernel_rfl
theorem cf_25 : compF Go.Proofs.Try.prog 25 = some af_25 := by kernel_rfl
theorem cf_26 : compF Go.Proofs.Try.prog 26 = some af_26 := by kernel_rfl
theorem cf_27 : compF Go.Proofs.Try.prog 27 = some af_27 := by kernel_rfl
theorem cf_31 : compF Go.Proofs.Try.prog 31 = some af_31 := by kernel_rfl
theorem cf_33 : compF Go.Proofs.Try.prog 33 = some af_33 := by kernel_rfl
theorem cf_42 : compF Go.Proofs.Try.prog 42 = some af_42 := by kernel_rfl
theorem cf_43 : compF Go.Proofs.Try.prog 43 = some af_43 := by kernel_rfl
theorem cf_47 : compF Go.Proofs.Try.prog 47 = some af_47 := by kernel_rfl
theorem cf_48 : compF Go.Proofs.Try.prog 48 = some af_48 := by kernel_rfl
theorem cf_49 : compF Go.Proofs.Try.prog 49 = some af_49 := by kernel_rfl
theorem cf_50 : compF Go.Proofs.Try.prog 50 = some af_50 := by kernel_rfl
theorem cf_51 : compF Go.Proofs.Try.prog 51 = some af_51 := by kernel_rfl
theorem cf_52 : compF Go.Proofs.Try.prog 52 = some af_52 := by kernel_rfl
theorem cf_53 : compF Go.Proofs.Try.prog 53 = some af_53 := by kernel_rfl
theorem cf_54 : compF Go.Proofs.Try.prog 54 = some af_54 := by kernel_rfl
theorem cf_55 : compF Go.Proofs.Try.prog 55 = some af_55 := by kernel_rfl
theorem cf_56 : compF Go.Proofs.Try.prog 56 = some af_56 := by kernel_rfl
theorem cf_57 : compF Go.Proofs.Try.prog 57 = some af_57 := by kernel_rfl
theorem cf_58 : compF Go.Proofs.Try.prog 58 = some af_58 := by kernel_rfl
theorem cf_59 : compF Go.Proofs.Try.prog 59 = some af_59 := by kernel_rfl
theorem cf_60 : compF Go.Proofs.Try.prog 60 = some af_60 := by kernel_rfl
theorem cf_61 : compF Go.Proofs.Try.prog 61 = some af_61 := by kernel_rfl
theorem cf_65 : compF Go.Proofs.Try.prog 65 = some af_65 := by kernel_rfl
theorem cf_66 : compF Go.Proofs.Try.prog 66 = some af_66 := by kernel_rfl
theorem cf_68 : compF Go.Proofs.Try.prog 68 = some af_68 := by kernel_rfl
theorem cf_69 : compF Go.Proofs.Try.prog 69 = some af_69 := by kernel_rfl
theorem cf_70 : compF Go.Proofs.Try.prog 70 = some af_70 := by kernel_rfl
theorem cf_71 : compF Go.Proofs.Try.prog 71 = some af_71 := by kernel_rfl
theorem cf_72 : compF Go.Proofs.Try.prog 72 = some af_72 := by kernel_rfl
theorem cf_73 : compF Go.Proofs.Try.prog 73 = some af_73 := by kernel_rfl
theorem cf_74 : compF Go.Proofs.Try.prog 74 = some af_74 := by kernel_rfl
theorem cf_78 : compF Go.Proofs.Try.prog 78 = some af_78 := by kernel_rfl
theorem cf_79 : compF Go.Proofs.Try.prog 79 = some af_79 := by kernel_rfl
theorem cf_80 : compF Go.Proofs.Try.prog 80 = some af_80 := by kernel_rfl
theorem cf_81 : compF Go.Proofs.Try.prog 81 = some af_81 := by kernel_rfl
theorem cf_82 : compF Go.Proofs.Try.prog 82 = some af_82 := by kernel_rfl
theorem cf_83 : compF Go.Proofs.Try.prog 83 = some af_83 := by kernel_rfl
theorem cf_84 : compF Go.Proofs.Try.prog 84 = some af_84 := by kernel_rfl
theorem cf_85 : compF Go.Proofs.Try.prog 85 = some af_85 := by kernel_rfl
theorem cf_86 : compF Go.Proofs.Try.prog 86 = some af_86 := by kernel_rfl
theorem cf_87 : compF Go.Proofs.Try.prog 87 = some af_87 := by kernel_rfl
theorem cf_88 : compF Go.Proofs.Try.prog 88 = some af_88 := by kernel_rfl
theorem cf_89 : compF Go.Proofs.Try.prog 89 = some af_89 := by kernel_rfl
theorem cf_90 : compF Go.Proofs.Try.prog 90 = some af_90 := by kernel_rfl
theorem cf_91 : compF Go.Proofs.Try.prog 91 = some af_91 := by kernel_rfl
theorem cf_92 : compF Go.Proofs.Try.prog 92 = some af_92 := by kernel_rfl
theorem cf_95 : compF Go.Proofs.Try.prog 95 = some af_95 := by kernel_rfl
theorem cf_96 : compF Go.Proofs.Try.prog 96 = some af_96 := by kernel_rfl
theorem cf_97 : compF Go.Proofs.Try.prog 97 = some af_97 := by kernel_rfl
theorem cf_98 : compF Go.Proofs.Try.prog 98 = some af_98 := by kernel_rfl
theorem cf_99 : compF Go.Proofs.Try.prog 99 = some af_99 := by kernel_rfl
theorem cf_100 : compF Go.Proofs.Try.prog 100 = some af_100 := by kernel_rfl
theorem cf_101 : compF Go.Proofs.Try.prog 101 = some af_101 := by kernel_rfl
theorem cf_102 : compF Go.Proofs.Try.prog 102 = some af_102 := by kernel_rfl
theorem cf_103 : compF Go.Proofs.Try.prog 103 = some af_103 := by kernel_rfl
theorem cf_104 : compF Go.Proofs.Try.prog 104 = some af_104 := by kernel_rfl
theorem cf_105 : compF Go.Proofs.Try.prog 105 = some af_105 := by kernel_rfl
theorem cf_106 : compF Go.Proofs.Try.prog 106 = some af_106 := by kernel_rfl
theorem cf_107 : compF Go.Proofs.Try.prog 107 = some af_107 := by kernel_rfl
theorem cf_110 : compF Go.Proofs.Try.prog 110 = some af_110 := by kernel_rfl
theorem cf_111 : compF Go.Proofs.Try.prog 111 = some af_111 := by kernel_rfl
theorem cf_112 : compF Go.Proofs.Try.prog 112 = some af_112 := by kernel_rfl
theorem cf_114 : compF Go.Proofs.Try.prog 114 = some af_114 := by kernel_rfl
theorem cf_115 : compF Go.Proofs.Try.prog 115 = some af_115 := by kernel_rfl
theorem tree_good : tree.Good Go.Proofs.Try.prog := ⟨⟨⟨⟨⟨⟨⟨trivial, cf_7, trivial⟩, cf_12, trivial⟩, cf_13, ⟨trivial, cf_14, trivial⟩⟩, cf_15, ⟨⟨⟨trivial, cf_16, trivial⟩, cf_17, trivial⟩, cf_18, ⟨trivial, cf_19, trivial⟩⟩⟩, cf_20, ⟨⟨⟨⟨trivial, cf_21, trivial⟩, cf_25, trivial⟩, cf_26, ⟨trivial, cf_27, trivial⟩⟩, cf_31, ⟨⟨trivial, cf_33, trivial⟩, cf_42, ⟨trivial, cf_43, trivial⟩⟩⟩⟩, cf_47, ⟨⟨⟨⟨⟨trivial, cf_48, trivial⟩, cf_49, trivial⟩, cf_50, ⟨trivial, cf_51, trivial⟩⟩, cf_52, ⟨⟨⟨trivial, cf_53, trivial⟩, cf_54, trivial⟩, cf_55, ⟨trivial, cf_56, trivial⟩⟩⟩, cf_57, ⟨⟨⟨⟨trivial, cf_58, trivial⟩, cf_59, trivial⟩, cf_60, ⟨trivial, cf_61, trivial⟩⟩, cf_65, ⟨⟨trivial, cf_66, trivial⟩, cf_68, ⟨trivial, cf_69, trivial⟩⟩⟩⟩⟩, cf_70, ⟨⟨⟨⟨⟨⟨trivial, cf_71, trivial⟩, cf_72, trivial⟩, cf_73, ⟨trivial, cf_74, trivial⟩⟩, cf_78, ⟨⟨⟨trivial, cf_79, trivial⟩, cf_80, trivial⟩, cf_81, ⟨trivial, cf_82, trivial⟩⟩⟩, cf_83, ⟨⟨⟨⟨trivial, cf_84, trivial⟩, cf_85, trivial⟩, cf_86, ⟨trivial, cf_87, trivial⟩⟩, cf_88, ⟨⟨trivial, cf_89, trivial⟩, cf_90, ⟨trivial, cf_91, trivial⟩⟩⟩⟩, cf_92, ⟨⟨⟨⟨⟨trivial, cf_95, trivial⟩, cf_96, trivial⟩, cf_97, ⟨trivial, cf_98, trivial⟩⟩, cf_99, ⟨⟨⟨trivial, cf_100, trivial⟩, cf_101, trivial⟩, cf_102, ⟨trivial, cf_103, trivial⟩⟩⟩, cf_104, ⟨⟨⟨⟨trivial, cf_105, trivial⟩, cf_106, trivial⟩, cf_107, ⟨trivial, cf_110, trivial⟩⟩, cf_111, ⟨⟨trivial, cf_112, trivial⟩, cf_114, ⟨trivial, cf_115, trivial⟩⟩⟩⟩⟩⟩
end Go.Ev
