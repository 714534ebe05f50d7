/- What the program says of its types: sizes, fields, zero values. -/
import Derived.Test.YthefddclefimoaaDoorDrA
namespace Go.Proofs.YthefddclefimoaaDoor
set_option linter.unusedVariables false
set_option maxRecDepth 8000
theorem ty_one_1 : oneB Tryd.prog 1 = true := by kernel_rfl
theorem ty_size_1_1 : sizeB Tryd.prog 1 1 = true := by kernel_rfl
theorem ty_one_2 : oneB Tryd.prog 2 = true := by kernel_rfl
theorem ty_size_2_1 : sizeB Tryd.prog 2 1 = true := by kernel_rfl
theorem ty_zero_2 : (Tryd.prog.info? 2).bind (·.zero) = some (.int .i64 0) := by kernel_rfl
theorem ty_one_3 : oneB Tryd.prog 3 = true := by kernel_rfl
theorem ty_size_3_1 : sizeB Tryd.prog 3 1 = true := by kernel_rfl
theorem ty_zero_3 : (Tryd.prog.info? 3).bind (·.zero) = some (.int .i64 0) := by kernel_rfl
theorem ty_one_4 : oneB Tryd.prog 4 = true := by kernel_rfl
theorem ty_size_4_1 : sizeB Tryd.prog 4 1 = true := by kernel_rfl
theorem ty_zero_4 : (Tryd.prog.info? 4).bind (·.zero) = some (.bool false) := by kernel_rfl
theorem ty_one_5 : oneB Tryd.prog 5 = true := by kernel_rfl
theorem ty_size_5_1 : sizeB Tryd.prog 5 1 = true := by kernel_rfl
theorem ty_zero_5 : (Tryd.prog.info? 5).bind (·.zero) = some (.int .u8 0) := by kernel_rfl
theorem ty_one_6 : oneB Tryd.prog 6 = true := by kernel_rfl
theorem ty_size_6_1 : sizeB Tryd.prog 6 1 = true := by kernel_rfl
theorem ty_zero_6 : (Tryd.prog.info? 6).bind (·.zero) = some (.int .u8 0) := by kernel_rfl
theorem ty_agg_7_4 : aggB Tryd.prog 7 4 = true := by kernel_rfl
theorem ty_size_7_4 : sizeB Tryd.prog 7 4 = true := by kernel_rfl
theorem ty_fld_7_0_0 : fldB Tryd.prog 7 0 0 = true := by kernel_rfl
theorem ty_fld_7_1_1 : fldB Tryd.prog 7 1 1 = true := by kernel_rfl
theorem ty_fld_7_2_2 : fldB Tryd.prog 7 2 2 = true := by kernel_rfl
theorem ty_fld_7_3_3 : fldB Tryd.prog 7 3 3 = true := by kernel_rfl
theorem ty_zero_7 : (Tryd.prog.info? 7).bind (·.zero) = some (.agg #[.int .i64 0, .int .i64 0, .bool false, .int .u8 0]) := by kernel_rfl
theorem ty_agg_8_4 : aggB Tryd.prog 8 4 = true := by kernel_rfl
theorem ty_size_8_4 : sizeB Tryd.prog 8 4 = true := by kernel_rfl
theorem ty_fld_8_0_0 : fldB Tryd.prog 8 0 0 = true := by kernel_rfl
theorem ty_fld_8_1_1 : fldB Tryd.prog 8 1 1 = true := by kernel_rfl
theorem ty_fld_8_2_2 : fldB Tryd.prog 8 2 2 = true := by kernel_rfl
theorem ty_fld_8_3_3 : fldB Tryd.prog 8 3 3 = true := by kernel_rfl
theorem ty_zero_8 : (Tryd.prog.info? 8).bind (·.zero) = some (.agg #[.int .i64 0, .int .i64 0, .bool false, .int .u8 0]) := by kernel_rfl
theorem ty_one_9 : oneB Tryd.prog 9 = true := by kernel_rfl
theorem ty_size_9_1 : sizeB Tryd.prog 9 1 = true := by kernel_rfl
theorem ty_zero_9 : (Tryd.prog.info? 9).bind (·.zero) = some (.string ⟨#[]⟩) := by kernel_rfl
theorem ty_one_10 : oneB Tryd.prog 10 = true := by kernel_rfl
theorem ty_size_10_1 : sizeB Tryd.prog 10 1 = true := by kernel_rfl
theorem ty_zero_10 : (Tryd.prog.info? 10).bind (·.zero) = some (.string ⟨#[]⟩) := by kernel_rfl
theorem ty_one_11 : oneB Tryd.prog 11 = true := by kernel_rfl
theorem ty_size_11_1 : sizeB Tryd.prog 11 1 = true := by kernel_rfl
theorem ty_zero_11 : (Tryd.prog.info? 11).bind (·.zero) = some (.string ⟨#[]⟩) := by kernel_rfl
theorem ty_one_12 : oneB Tryd.prog 12 = true := by kernel_rfl
theorem ty_size_12_1 : sizeB Tryd.prog 12 1 = true := by kernel_rfl
theorem ty_zero_12 : (Tryd.prog.info? 12).bind (·.zero) = some (.int .u64 0) := by kernel_rfl
theorem ty_agg_13_2 : aggB Tryd.prog 13 2 = true := by kernel_rfl
theorem ty_size_13_2 : sizeB Tryd.prog 13 2 = true := by kernel_rfl
theorem ty_fld_13_0_0 : fldB Tryd.prog 13 0 0 = true := by kernel_rfl
theorem ty_fld_13_1_1 : fldB Tryd.prog 13 1 1 = true := by kernel_rfl
theorem ty_zero_13 : (Tryd.prog.info? 13).bind (·.zero) = some (.agg #[.string ⟨#[]⟩, .int .u64 0]) := by kernel_rfl
theorem ty_agg_14_2 : aggB Tryd.prog 14 2 = true := by kernel_rfl
theorem ty_size_14_2 : sizeB Tryd.prog 14 2 = true := by kernel_rfl
theorem ty_fld_14_0_0 : fldB Tryd.prog 14 0 0 = true := by kernel_rfl
theorem ty_fld_14_1_1 : fldB Tryd.prog 14 1 1 = true := by kernel_rfl
theorem ty_zero_14 : (Tryd.prog.info? 14).bind (·.zero) = some (.agg #[.string ⟨#[]⟩, .int .u64 0]) := by kernel_rfl
theorem ty_one_21 : oneB Tryd.prog 21 = true := by kernel_rfl
theorem ty_size_21_1 : sizeB Tryd.prog 21 1 = true := by kernel_rfl
theorem ty_zero_21 : (Tryd.prog.info? 21).bind (·.zero) = some (.int .i32 0) := by kernel_rfl
theorem ty_one_22 : oneB Tryd.prog 22 = true := by kernel_rfl
theorem ty_size_22_1 : sizeB Tryd.prog 22 1 = true := by kernel_rfl
theorem ty_slice_22 : sliceB Tryd.prog 22 3 = true := by kernel_rfl
theorem ty_ap_22 : apB Tryd.prog 22 3 56 = true := by kernel_rfl
theorem ty_zero_22 : (Tryd.prog.info? 22).bind (·.zero) = some (.slice none 0 0) := by kernel_rfl
theorem ty_agg_23_2 : aggB Tryd.prog 23 2 = true := by kernel_rfl
theorem ty_size_23_2 : sizeB Tryd.prog 23 2 = true := by kernel_rfl
theorem ty_zero_23 : (Tryd.prog.info? 23).bind (·.zero) = some (.agg #[.string ⟨#[]⟩, .string ⟨#[]⟩]) := by kernel_rfl
theorem ty_one_24 : oneB Tryd.prog 24 = true := by kernel_rfl
theorem ty_size_24_1 : sizeB Tryd.prog 24 1 = true := by kernel_rfl
theorem ty_one_25 : oneB Tryd.prog 25 = true := by kernel_rfl
theorem ty_size_25_1 : sizeB Tryd.prog 25 1 = true := by kernel_rfl
theorem ty_one_26 : oneB Tryd.prog 26 = true := by kernel_rfl
theorem ty_size_26_1 : sizeB Tryd.prog 26 1 = true := by kernel_rfl
theorem ty_zero_26 : (Tryd.prog.info? 26).bind (·.zero) = some (.int .i64 0) := by kernel_rfl
theorem ty_one_28 : oneB Tryd.prog 28 = true := by kernel_rfl
theorem ty_size_28_1 : sizeB Tryd.prog 28 1 = true := by kernel_rfl
theorem ty_one_29 : oneB Tryd.prog 29 = true := by kernel_rfl
theorem ty_size_29_1 : sizeB Tryd.prog 29 1 = true := by kernel_rfl
theorem ty_one_30 : oneB Tryd.prog 30 = true := by kernel_rfl
theorem ty_size_30_1 : sizeB Tryd.prog 30 1 = true := by kernel_rfl
theorem ty_agg_31_3 : aggB Tryd.prog 31 3 = true := by kernel_rfl
theorem ty_size_31_3 : sizeB Tryd.prog 31 3 = true := by kernel_rfl
theorem ty_zero_31 : (Tryd.prog.info? 31).bind (·.zero) = some (.agg #[.slice none 0 0, .slice none 0 0, .slice none 0 0]) := by kernel_rfl
theorem ty_one_33 : oneB Tryd.prog 33 = true := by kernel_rfl
theorem ty_size_33_1 : sizeB Tryd.prog 33 1 = true := by kernel_rfl
theorem ty_one_34 : oneB Tryd.prog 34 = true := by kernel_rfl
theorem ty_size_34_1 : sizeB Tryd.prog 34 1 = true := by kernel_rfl
theorem ty_one_35 : oneB Tryd.prog 35 = true := by kernel_rfl
theorem ty_size_35_1 : sizeB Tryd.prog 35 1 = true := by kernel_rfl
theorem ty_one_36 : oneB Tryd.prog 36 = true := by kernel_rfl
theorem ty_size_36_1 : sizeB Tryd.prog 36 1 = true := by kernel_rfl
theorem ty_one_37 : oneB Tryd.prog 37 = true := by kernel_rfl
theorem ty_size_37_1 : sizeB Tryd.prog 37 1 = true := by kernel_rfl
theorem ty_slice_37 : sliceB Tryd.prog 37 3 = true := by kernel_rfl
theorem ty_ap_37 : apB Tryd.prog 37 3 3 = true := by kernel_rfl
theorem ty_zero_37 : (Tryd.prog.info? 37).bind (·.zero) = some (.slice none 0 0) := by kernel_rfl
theorem ty_one_38 : oneB Tryd.prog 38 = true := by kernel_rfl
theorem ty_size_38_1 : sizeB Tryd.prog 38 1 = true := by kernel_rfl
theorem ty_slice_38 : sliceB Tryd.prog 38 4 = true := by kernel_rfl
theorem ty_ap_38 : apB Tryd.prog 38 4 56 = true := by kernel_rfl
theorem ty_zero_38 : (Tryd.prog.info? 38).bind (·.zero) = some (.slice none 0 0) := by kernel_rfl
theorem ty_agg_39_5 : aggB Tryd.prog 39 5 = true := by kernel_rfl
theorem ty_size_39_5 : sizeB Tryd.prog 39 5 = true := by kernel_rfl
theorem ty_zero_39 : (Tryd.prog.info? 39).bind (·.zero) = some (.agg #[.string ⟨#[]⟩, .string ⟨#[]⟩, .string ⟨#[]⟩, .string ⟨#[]⟩, .string ⟨#[]⟩]) := by kernel_rfl
theorem ty_agg_40_3 : aggB Tryd.prog 40 3 = true := by kernel_rfl
theorem ty_size_40_3 : sizeB Tryd.prog 40 3 = true := by kernel_rfl
theorem ty_fld_40_0_0 : fldB Tryd.prog 40 0 0 = true := by kernel_rfl
theorem ty_fld_40_1_1 : fldB Tryd.prog 40 1 1 = true := by kernel_rfl
theorem ty_fld_40_2_2 : fldB Tryd.prog 40 2 2 = true := by kernel_rfl
theorem ty_zero_40 : (Tryd.prog.info? 40).bind (·.zero) = some (.agg #[.bool false, .int .u8 0, .int .u8 0]) := by kernel_rfl
theorem ty_agg_41_3 : aggB Tryd.prog 41 3 = true := by kernel_rfl
theorem ty_size_41_3 : sizeB Tryd.prog 41 3 = true := by kernel_rfl
theorem ty_fld_41_0_0 : fldB Tryd.prog 41 0 0 = true := by kernel_rfl
theorem ty_fld_41_1_1 : fldB Tryd.prog 41 1 1 = true := by kernel_rfl
theorem ty_fld_41_2_2 : fldB Tryd.prog 41 2 2 = true := by kernel_rfl
theorem ty_zero_41 : (Tryd.prog.info? 41).bind (·.zero) = some (.agg #[.bool false, .int .u8 0, .int .u8 0]) := by kernel_rfl
theorem ty_agg_42_2 : aggB Tryd.prog 42 2 = true := by kernel_rfl
theorem ty_size_42_2 : sizeB Tryd.prog 42 2 = true := by kernel_rfl
theorem ty_fld_42_0_0 : fldB Tryd.prog 42 0 0 = true := by kernel_rfl
theorem ty_fld_42_1_1 : fldB Tryd.prog 42 1 1 = true := by kernel_rfl
theorem ty_zero_42 : (Tryd.prog.info? 42).bind (·.zero) = some (.agg #[.string ⟨#[]⟩, .string ⟨#[]⟩]) := by kernel_rfl
theorem ty_agg_43_2 : aggB Tryd.prog 43 2 = true := by kernel_rfl
theorem ty_size_43_2 : sizeB Tryd.prog 43 2 = true := by kernel_rfl
theorem ty_fld_43_0_0 : fldB Tryd.prog 43 0 0 = true := by kernel_rfl
theorem ty_fld_43_1_1 : fldB Tryd.prog 43 1 1 = true := by kernel_rfl
theorem ty_zero_43 : (Tryd.prog.info? 43).bind (·.zero) = some (.agg #[.string ⟨#[]⟩, .string ⟨#[]⟩]) := by kernel_rfl
theorem ty_agg_44_4 : aggB Tryd.prog 44 4 = true := by kernel_rfl
theorem ty_size_44_4 : sizeB Tryd.prog 44 4 = true := by kernel_rfl
theorem ty_fld_44_0_0 : fldB Tryd.prog 44 0 0 = true := by kernel_rfl
theorem ty_fld_44_1_2 : fldB Tryd.prog 44 1 2 = true := by kernel_rfl
theorem ty_fld_44_2_3 : fldB Tryd.prog 44 2 3 = true := by kernel_rfl
theorem ty_zero_44 : (Tryd.prog.info? 44).bind (·.zero) = some (.agg #[.string ⟨#[]⟩, .string ⟨#[]⟩, .string ⟨#[]⟩, .int .i64 0]) := by kernel_rfl
theorem ty_agg_45_4 : aggB Tryd.prog 45 4 = true := by kernel_rfl
theorem ty_size_45_4 : sizeB Tryd.prog 45 4 = true := by kernel_rfl
theorem ty_fld_45_0_0 : fldB Tryd.prog 45 0 0 = true := by kernel_rfl
theorem ty_fld_45_1_2 : fldB Tryd.prog 45 1 2 = true := by kernel_rfl
theorem ty_fld_45_2_3 : fldB Tryd.prog 45 2 3 = true := by kernel_rfl
theorem ty_zero_45 : (Tryd.prog.info? 45).bind (·.zero) = some (.agg #[.string ⟨#[]⟩, .string ⟨#[]⟩, .string ⟨#[]⟩, .int .i64 0]) := by kernel_rfl
theorem ty_one_47 : oneB Tryd.prog 47 = true := by kernel_rfl
theorem ty_size_47_1 : sizeB Tryd.prog 47 1 = true := by kernel_rfl
theorem ty_one_49 : oneB Tryd.prog 49 = true := by kernel_rfl
theorem ty_size_49_1 : sizeB Tryd.prog 49 1 = true := by kernel_rfl
theorem ty_one_50 : oneB Tryd.prog 50 = true := by kernel_rfl
theorem ty_size_50_1 : sizeB Tryd.prog 50 1 = true := by kernel_rfl
theorem ty_one_51 : oneB Tryd.prog 51 = true := by kernel_rfl
theorem ty_size_51_1 : sizeB Tryd.prog 51 1 = true := by kernel_rfl
theorem ty_one_52 : oneB Tryd.prog 52 = true := by kernel_rfl
theorem ty_size_52_1 : sizeB Tryd.prog 52 1 = true := by kernel_rfl
theorem ty_slice_52 : sliceB Tryd.prog 52 2 = true := by kernel_rfl
theorem ty_ap_52 : apB Tryd.prog 52 2 32 = true := by kernel_rfl
theorem ty_zero_52 : (Tryd.prog.info? 52).bind (·.zero) = some (.slice none 0 0) := by kernel_rfl
theorem ty_one_53 : oneB Tryd.prog 53 = true := by kernel_rfl
theorem ty_size_53_1 : sizeB Tryd.prog 53 1 = true := by kernel_rfl
theorem ty_one_54 : oneB Tryd.prog 54 = true := by kernel_rfl
theorem ty_size_54_1 : sizeB Tryd.prog 54 1 = true := by kernel_rfl
theorem ty_one_55 : oneB Tryd.prog 55 = true := by kernel_rfl
theorem ty_size_55_1 : sizeB Tryd.prog 55 1 = true := by kernel_rfl
theorem ty_slice_55 : sliceB Tryd.prog 55 1 = true := by kernel_rfl
theorem ty_ap_55 : apB Tryd.prog 55 1 16 = true := by kernel_rfl
theorem ty_zero_55 : (Tryd.prog.info? 55).bind (·.zero) = some (.slice none 0 0) := by kernel_rfl
theorem ty_agg_56_3 : aggB Tryd.prog 56 3 = true := by kernel_rfl
theorem ty_size_56_3 : sizeB Tryd.prog 56 3 = true := by kernel_rfl
theorem ty_fld_56_0_0 : fldB Tryd.prog 56 0 0 = true := by kernel_rfl
theorem ty_fld_56_1_1 : fldB Tryd.prog 56 1 1 = true := by kernel_rfl
theorem ty_fld_56_2_2 : fldB Tryd.prog 56 2 2 = true := by kernel_rfl
theorem ty_zero_56 : (Tryd.prog.info? 56).bind (·.zero) = some (.agg #[.string ⟨#[]⟩, .string ⟨#[]⟩, .slice none 0 0]) := by kernel_rfl
theorem ty_agg_57_3 : aggB Tryd.prog 57 3 = true := by kernel_rfl
theorem ty_size_57_3 : sizeB Tryd.prog 57 3 = true := by kernel_rfl
theorem ty_fld_57_0_0 : fldB Tryd.prog 57 0 0 = true := by kernel_rfl
theorem ty_fld_57_1_1 : fldB Tryd.prog 57 1 1 = true := by kernel_rfl
theorem ty_fld_57_2_2 : fldB Tryd.prog 57 2 2 = true := by kernel_rfl
theorem ty_zero_57 : (Tryd.prog.info? 57).bind (·.zero) = some (.agg #[.string ⟨#[]⟩, .string ⟨#[]⟩, .slice none 0 0]) := by kernel_rfl
theorem ty_one_59 : oneB Tryd.prog 59 = true := by kernel_rfl
theorem ty_size_59_1 : sizeB Tryd.prog 59 1 = true := by kernel_rfl
theorem ty_one_60 : oneB Tryd.prog 60 = true := by kernel_rfl
theorem ty_size_60_1 : sizeB Tryd.prog 60 1 = true := by kernel_rfl
theorem ty_one_61 : oneB Tryd.prog 61 = true := by kernel_rfl
theorem ty_size_61_1 : sizeB Tryd.prog 61 1 = true := by kernel_rfl
theorem ty_one_62 : oneB Tryd.prog 62 = true := by kernel_rfl
theorem ty_size_62_1 : sizeB Tryd.prog 62 1 = true := by kernel_rfl
theorem ty_one_63 : oneB Tryd.prog 63 = true := by kernel_rfl
theorem ty_size_63_1 : sizeB Tryd.prog 63 1 = true := by kernel_rfl
theorem ty_one_64 : oneB Tryd.prog 64 = true := by kernel_rfl
theorem ty_size_64_1 : sizeB Tryd.prog 64 1 = true := by kernel_rfl
theorem ty_one_65 : oneB Tryd.prog 65 = true := by kernel_rfl
theorem ty_size_65_1 : sizeB Tryd.prog 65 1 = true := by kernel_rfl
theorem ty_one_66 : oneB Tryd.prog 66 = true := by kernel_rfl
theorem ty_size_66_1 : sizeB Tryd.prog 66 1 = true := by kernel_rfl
theorem ty_one_67 : oneB Tryd.prog 67 = true := by kernel_rfl
theorem ty_size_67_1 : sizeB Tryd.prog 67 1 = true := by kernel_rfl
theorem ty_one_68 : oneB Tryd.prog 68 = true := by kernel_rfl
theorem ty_size_68_1 : sizeB Tryd.prog 68 1 = true := by kernel_rfl
theorem ty_one_69 : oneB Tryd.prog 69 = true := by kernel_rfl
theorem ty_size_69_1 : sizeB Tryd.prog 69 1 = true := by kernel_rfl
theorem ty_one_70 : oneB Tryd.prog 70 = true := by kernel_rfl
theorem ty_size_70_1 : sizeB Tryd.prog 70 1 = true := by kernel_rfl
theorem ty_one_71 : oneB Tryd.prog 71 = true := by kernel_rfl
theorem ty_size_71_1 : sizeB Tryd.prog 71 1 = true := by kernel_rfl
theorem ty_one_72 : oneB Tryd.prog 72 = true := by kernel_rfl
theorem ty_size_72_1 : sizeB Tryd.prog 72 1 = true := by kernel_rfl
theorem ty_one_73 : oneB Tryd.prog 73 = true := by kernel_rfl
theorem ty_size_73_1 : sizeB Tryd.prog 73 1 = true := by kernel_rfl
theorem ty_one_75 : oneB Tryd.prog 75 = true := by kernel_rfl
theorem ty_size_75_1 : sizeB Tryd.prog 75 1 = true := by kernel_rfl
theorem ty_one_76 : oneB Tryd.prog 76 = true := by kernel_rfl
theorem ty_size_76_1 : sizeB Tryd.prog 76 1 = true := by kernel_rfl
theorem ty_one_77 : oneB Tryd.prog 77 = true := by kernel_rfl
theorem ty_size_77_1 : sizeB Tryd.prog 77 1 = true := by kernel_rfl
theorem ty_one_78 : oneB Tryd.prog 78 = true := by kernel_rfl
theorem ty_size_78_1 : sizeB Tryd.prog 78 1 = true := by kernel_rfl
theorem ty_one_79 : oneB Tryd.prog 79 = true := by kernel_rfl
theorem ty_size_79_1 : sizeB Tryd.prog 79 1 = true := by kernel_rfl
theorem ty_one_80 : oneB Tryd.prog 80 = true := by kernel_rfl
theorem ty_size_80_1 : sizeB Tryd.prog 80 1 = true := by kernel_rfl
theorem ty_one_81 : oneB Tryd.prog 81 = true := by kernel_rfl
theorem ty_size_81_1 : sizeB Tryd.prog 81 1 = true := by kernel_rfl
theorem ty_slice_81 : sliceB Tryd.prog 81 1 = true := by kernel_rfl
theorem ty_ap_81 : apB Tryd.prog 81 1 24 = true := by kernel_rfl
theorem ty_zero_81 : (Tryd.prog.info? 81).bind (·.zero) = some (.slice none 0 0) := by kernel_rfl
theorem ty_one_82 : oneB Tryd.prog 82 = true := by kernel_rfl
theorem ty_size_82_1 : sizeB Tryd.prog 82 1 = true := by kernel_rfl
theorem ty_one_83 : oneB Tryd.prog 83 = true := by kernel_rfl
theorem ty_size_83_1 : sizeB Tryd.prog 83 1 = true := by kernel_rfl
theorem ty_one_84 : oneB Tryd.prog 84 = true := by kernel_rfl
theorem ty_size_84_1 : sizeB Tryd.prog 84 1 = true := by kernel_rfl
theorem ty_one_85 : oneB Tryd.prog 85 = true := by kernel_rfl
theorem ty_size_85_1 : sizeB Tryd.prog 85 1 = true := by kernel_rfl
theorem ty_zero_85 : (Tryd.prog.info? 85).bind (·.zero) = some (.int .u64 0) := by kernel_rfl
theorem ty_one_86 : oneB Tryd.prog 86 = true := by kernel_rfl
theorem ty_size_86_1 : sizeB Tryd.prog 86 1 = true := by kernel_rfl
theorem ty_one_87 : oneB Tryd.prog 87 = true := by kernel_rfl
theorem ty_size_87_1 : sizeB Tryd.prog 87 1 = true := by kernel_rfl
theorem ty_one_88 : oneB Tryd.prog 88 = true := by kernel_rfl
theorem ty_size_88_1 : sizeB Tryd.prog 88 1 = true := by kernel_rfl
theorem ty_one_89 : oneB Tryd.prog 89 = true := by kernel_rfl
theorem ty_size_89_1 : sizeB Tryd.prog 89 1 = true := by kernel_rfl
theorem ty_one_90 : oneB Tryd.prog 90 = true := by kernel_rfl
theorem ty_size_90_1 : sizeB Tryd.prog 90 1 = true := by kernel_rfl
theorem ty_one_91 : oneB Tryd.prog 91 = true := by kernel_rfl
theorem ty_size_91_1 : sizeB Tryd.prog 91 1 = true := by kernel_rfl
theorem ty_one_92 : oneB Tryd.prog 92 = true := by kernel_rfl
theorem ty_size_92_1 : sizeB Tryd.prog 92 1 = true := by kernel_rfl
theorem ty_one_93 : oneB Tryd.prog 93 = true := by kernel_rfl
theorem ty_size_93_1 : sizeB Tryd.prog 93 1 = true := by kernel_rfl
theorem ty_one_94 : oneB Tryd.prog 94 = true := by kernel_rfl
theorem ty_size_94_1 : sizeB Tryd.prog 94 1 = true := by kernel_rfl
theorem ty_one_95 : oneB Tryd.prog 95 = true := by kernel_rfl
theorem ty_size_95_1 : sizeB Tryd.prog 95 1 = true := by kernel_rfl
theorem ty_one_96 : oneB Tryd.prog 96 = true := by kernel_rfl
theorem ty_size_96_1 : sizeB Tryd.prog 96 1 = true := by kernel_rfl
theorem ty_one_97 : oneB Tryd.prog 97 = true := by kernel_rfl
theorem ty_size_97_1 : sizeB Tryd.prog 97 1 = true := by kernel_rfl
theorem ty_one_98 : oneB Tryd.prog 98 = true := by kernel_rfl
theorem ty_size_98_1 : sizeB Tryd.prog 98 1 = true := by kernel_rfl
theorem ty_one_99 : oneB Tryd.prog 99 = true := by kernel_rfl
theorem ty_size_99_1 : sizeB Tryd.prog 99 1 = true := by kernel_rfl
theorem ty_zero_99 : (Tryd.prog.info? 99).bind (·.zero) = some (.int .i64 0) := by kernel_rfl
theorem ty_one_101 : oneB Tryd.prog 101 = true := by kernel_rfl
theorem ty_size_101_1 : sizeB Tryd.prog 101 1 = true := by kernel_rfl
theorem ty_one_102 : oneB Tryd.prog 102 = true := by kernel_rfl
theorem ty_size_102_1 : sizeB Tryd.prog 102 1 = true := by kernel_rfl
theorem ty_one_103 : oneB Tryd.prog 103 = true := by kernel_rfl
theorem ty_size_103_1 : sizeB Tryd.prog 103 1 = true := by kernel_rfl
theorem ty_one_104 : oneB Tryd.prog 104 = true := by kernel_rfl
theorem ty_size_104_1 : sizeB Tryd.prog 104 1 = true := by kernel_rfl
theorem ty_one_105 : oneB Tryd.prog 105 = true := by kernel_rfl
theorem ty_size_105_1 : sizeB Tryd.prog 105 1 = true := by kernel_rfl
theorem ty_one_106 : oneB Tryd.prog 106 = true := by kernel_rfl
theorem ty_size_106_1 : sizeB Tryd.prog 106 1 = true := by kernel_rfl
theorem ty_one_107 : oneB Tryd.prog 107 = true := by kernel_rfl
theorem ty_size_107_1 : sizeB Tryd.prog 107 1 = true := by kernel_rfl
theorem ty_zero_107 : (Tryd.prog.info? 107).bind (·.zero) = some (.int .u32 0) := by kernel_rfl
theorem ty_one_108 : oneB Tryd.prog 108 = true := by kernel_rfl
theorem ty_size_108_1 : sizeB Tryd.prog 108 1 = true := by kernel_rfl
theorem ty_one_109 : oneB Tryd.prog 109 = true := by kernel_rfl
theorem ty_size_109_1 : sizeB Tryd.prog 109 1 = true := by kernel_rfl
theorem ty_zero_109 : (Tryd.prog.info? 109).bind (·.zero) = some (.int .u64 0) := by kernel_rfl
theorem ty_one_111 : oneB Tryd.prog 111 = true := by kernel_rfl
theorem ty_size_111_1 : sizeB Tryd.prog 111 1 = true := by kernel_rfl
theorem ty_one_112 : oneB Tryd.prog 112 = true := by kernel_rfl
theorem ty_size_112_1 : sizeB Tryd.prog 112 1 = true := by kernel_rfl
theorem ty_one_113 : oneB Tryd.prog 113 = true := by kernel_rfl
theorem ty_size_113_1 : sizeB Tryd.prog 113 1 = true := by kernel_rfl
theorem ty_one_115 : oneB Tryd.prog 115 = true := by kernel_rfl
theorem ty_size_115_1 : sizeB Tryd.prog 115 1 = true := by kernel_rfl
theorem ty_one_116 : oneB Tryd.prog 116 = true := by kernel_rfl
theorem ty_size_116_1 : sizeB Tryd.prog 116 1 = true := by kernel_rfl
theorem ty_zero_116 : (Tryd.prog.info? 116).bind (·.zero) = some (.int .u64 0) := by kernel_rfl
theorem ty_one_117 : oneB Tryd.prog 117 = true := by kernel_rfl
theorem ty_size_117_1 : sizeB Tryd.prog 117 1 = true := by kernel_rfl
theorem ty_one_118 : oneB Tryd.prog 118 = true := by kernel_rfl
theorem ty_size_118_1 : sizeB Tryd.prog 118 1 = true := by kernel_rfl
theorem ty_one_119 : oneB Tryd.prog 119 = true := by kernel_rfl
theorem ty_size_119_1 : sizeB Tryd.prog 119 1 = true := by kernel_rfl
theorem ty_one_121 : oneB Tryd.prog 121 = true := by kernel_rfl
theorem ty_size_121_1 : sizeB Tryd.prog 121 1 = true := by kernel_rfl
theorem ty_one_122 : oneB Tryd.prog 122 = true := by kernel_rfl
theorem ty_size_122_1 : sizeB Tryd.prog 122 1 = true := by kernel_rfl
theorem ty_one_123 : oneB Tryd.prog 123 = true := by kernel_rfl
theorem ty_size_123_1 : sizeB Tryd.prog 123 1 = true := by kernel_rfl
theorem ty_one_124 : oneB Tryd.prog 124 = true := by kernel_rfl
theorem ty_size_124_1 : sizeB Tryd.prog 124 1 = true := by kernel_rfl
theorem ty_one_125 : oneB Tryd.prog 125 = true := by kernel_rfl
theorem ty_size_125_1 : sizeB Tryd.prog 125 1 = true := by kernel_rfl
theorem ty_one_128 : oneB Tryd.prog 128 = true := by kernel_rfl
theorem ty_size_128_1 : sizeB Tryd.prog 128 1 = true := by kernel_rfl
theorem ty_one_129 : oneB Tryd.prog 129 = true := by kernel_rfl
theorem ty_size_129_1 : sizeB Tryd.prog 129 1 = true := by kernel_rfl
theorem ty_one_130 : oneB Tryd.prog 130 = true := by kernel_rfl
theorem ty_size_130_1 : sizeB Tryd.prog 130 1 = true := by kernel_rfl
theorem ty_one_131 : oneB Tryd.prog 131 = true := by kernel_rfl
theorem ty_size_131_1 : sizeB Tryd.prog 131 1 = true := by kernel_rfl
theorem ty_agg_132_2 : aggB Tryd.prog 132 2 = true := by kernel_rfl
theorem ty_size_132_2 : sizeB Tryd.prog 132 2 = true := by kernel_rfl
theorem ty_fld_132_0_0 : fldB Tryd.prog 132 0 0 = true := by kernel_rfl
theorem ty_fld_132_1_1 : fldB Tryd.prog 132 1 1 = true := by kernel_rfl
theorem ty_zero_132 : (Tryd.prog.info? 132).bind (·.zero) = some (.agg #[.string ⟨#[]⟩, .string ⟨#[]⟩]) := by kernel_rfl
theorem ty_agg_133_2 : aggB Tryd.prog 133 2 = true := by kernel_rfl
theorem ty_size_133_2 : sizeB Tryd.prog 133 2 = true := by kernel_rfl
theorem ty_fld_133_0_0 : fldB Tryd.prog 133 0 0 = true := by kernel_rfl
theorem ty_fld_133_1_1 : fldB Tryd.prog 133 1 1 = true := by kernel_rfl
theorem ty_zero_133 : (Tryd.prog.info? 133).bind (·.zero) = some (.agg #[.string ⟨#[]⟩, .string ⟨#[]⟩]) := by kernel_rfl
theorem ty_one_136 : oneB Tryd.prog 136 = true := by kernel_rfl
theorem ty_size_136_1 : sizeB Tryd.prog 136 1 = true := by kernel_rfl
theorem ty_one_138 : oneB Tryd.prog 138 = true := by kernel_rfl
theorem ty_size_138_1 : sizeB Tryd.prog 138 1 = true := by kernel_rfl
theorem ty_one_139 : oneB Tryd.prog 139 = true := by kernel_rfl
theorem ty_size_139_1 : sizeB Tryd.prog 139 1 = true := by kernel_rfl
theorem ty_one_140 : oneB Tryd.prog 140 = true := by kernel_rfl
theorem ty_size_140_1 : sizeB Tryd.prog 140 1 = true := by kernel_rfl
theorem ty_agg_141_256 : aggB Tryd.prog 141 256 = true := by kernel_rfl
theorem ty_size_141_256 : sizeB Tryd.prog 141 256 = true := by kernel_rfl
theorem ty_agg_142_256 : aggB Tryd.prog 142 256 = true := by kernel_rfl
theorem ty_size_142_256 : sizeB Tryd.prog 142 256 = true := by kernel_rfl
theorem ty_one_144 : oneB Tryd.prog 144 = true := by kernel_rfl
theorem ty_size_144_1 : sizeB Tryd.prog 144 1 = true := by kernel_rfl
theorem ty_one_145 : oneB Tryd.prog 145 = true := by kernel_rfl
theorem ty_size_145_1 : sizeB Tryd.prog 145 1 = true := by kernel_rfl
theorem ty_one_147 : oneB Tryd.prog 147 = true := by kernel_rfl
theorem ty_size_147_1 : sizeB Tryd.prog 147 1 = true := by kernel_rfl
theorem ty_slice_147 : sliceB Tryd.prog 147 1 = true := by kernel_rfl
theorem ty_ap_147 : apB Tryd.prog 147 1 1 = true := by kernel_rfl
theorem ty_zero_147 : (Tryd.prog.info? 147).bind (·.zero) = some (.slice none 0 0) := by kernel_rfl
theorem ty_one_149 : oneB Tryd.prog 149 = true := by kernel_rfl
theorem ty_size_149_1 : sizeB Tryd.prog 149 1 = true := by kernel_rfl
theorem ty_one_151 : oneB Tryd.prog 151 = true := by kernel_rfl
theorem ty_size_151_1 : sizeB Tryd.prog 151 1 = true := by kernel_rfl
theorem ty_one_152 : oneB Tryd.prog 152 = true := by kernel_rfl
theorem ty_size_152_1 : sizeB Tryd.prog 152 1 = true := by kernel_rfl
theorem ty_one_153 : oneB Tryd.prog 153 = true := by kernel_rfl
theorem ty_size_153_1 : sizeB Tryd.prog 153 1 = true := by kernel_rfl
theorem ty_agg_154_256 : aggB Tryd.prog 154 256 = true := by kernel_rfl
theorem ty_size_154_256 : sizeB Tryd.prog 154 256 = true := by kernel_rfl
theorem ty_zero_154 : (Tryd.prog.info? 154).bind (·.zero) = some (.agg (Array.replicate 256 (.int .u8 0))) := by kernel_rfl
theorem ty_agg_155_2 : aggB Tryd.prog 155 2 = true := by kernel_rfl
theorem ty_size_155_2 : sizeB Tryd.prog 155 2 = true := by kernel_rfl
theorem ty_fld_155_0_0 : fldB Tryd.prog 155 0 0 = true := by kernel_rfl
theorem ty_fld_155_1_1 : fldB Tryd.prog 155 1 1 = true := by kernel_rfl
theorem ty_zero_155 : (Tryd.prog.info? 155).bind (·.zero) = some (.agg #[.int .u8 0, .int .u8 0]) := by kernel_rfl
theorem ty_agg_156_2 : aggB Tryd.prog 156 2 = true := by kernel_rfl
theorem ty_size_156_2 : sizeB Tryd.prog 156 2 = true := by kernel_rfl
theorem ty_fld_156_0_0 : fldB Tryd.prog 156 0 0 = true := by kernel_rfl
theorem ty_fld_156_1_1 : fldB Tryd.prog 156 1 1 = true := by kernel_rfl
theorem ty_zero_156 : (Tryd.prog.info? 156).bind (·.zero) = some (.agg #[.int .u8 0, .int .u8 0]) := by kernel_rfl
theorem ty_agg_157_32 : aggB Tryd.prog 157 32 = true := by kernel_rfl
theorem ty_size_157_32 : sizeB Tryd.prog 157 32 = true := by kernel_rfl
theorem ty_zero_157 : (Tryd.prog.info? 157).bind (·.zero) = some (.agg #[.int .u8 0, .int .u8 0, .int .u8 0, .int .u8 0, .int .u8 0, .int .u8 0, .int .u8 0, .int .u8 0, .int .u8 0, .int .u8 0, .int .u8 0, .int .u8 0, .int .u8 0, .int .u8 0, .int .u8 0, .int .u8 0, .int .u8 0, .int .u8 0, .int .u8 0, .int .u8 0, .int .u8 0, .int .u8 0, .int .u8 0, .int .u8 0, .int .u8 0, .int .u8 0, .int .u8 0, .int .u8 0, .int .u8 0, .int .u8 0, .int .u8 0, .int .u8 0]) := by kernel_rfl
theorem ty_one_158 : oneB Tryd.prog 158 = true := by kernel_rfl
theorem ty_size_158_1 : sizeB Tryd.prog 158 1 = true := by kernel_rfl
theorem ty_one_159 : oneB Tryd.prog 159 = true := by kernel_rfl
theorem ty_size_159_1 : sizeB Tryd.prog 159 1 = true := by kernel_rfl
theorem ty_one_165 : oneB Tryd.prog 165 = true := by kernel_rfl
theorem ty_size_165_1 : sizeB Tryd.prog 165 1 = true := by kernel_rfl
theorem ty_one_166 : oneB Tryd.prog 166 = true := by kernel_rfl
theorem ty_size_166_1 : sizeB Tryd.prog 166 1 = true := by kernel_rfl
theorem ty_zero_166 : (Tryd.prog.info? 166).bind (·.zero) = some (.int .u8 0) := by kernel_rfl
theorem ty_one_167 : oneB Tryd.prog 167 = true := by kernel_rfl
theorem ty_size_167_1 : sizeB Tryd.prog 167 1 = true := by kernel_rfl
theorem ty_zero_167 : (Tryd.prog.info? 167).bind (·.zero) = some (.int .u8 0) := by kernel_rfl
theorem ty_one_168 : oneB Tryd.prog 168 = true := by kernel_rfl
theorem ty_size_168_1 : sizeB Tryd.prog 168 1 = true := by kernel_rfl
theorem ty_one_170 : oneB Tryd.prog 170 = true := by kernel_rfl
theorem ty_size_170_1 : sizeB Tryd.prog 170 1 = true := by kernel_rfl
theorem ty_zero_170 : (Tryd.prog.info? 170).bind (·.zero) = some (.int .i32 0) := by kernel_rfl
theorem ty_one_171 : oneB Tryd.prog 171 = true := by kernel_rfl
theorem ty_size_171_1 : sizeB Tryd.prog 171 1 = true := by kernel_rfl
theorem ty_zero_171 : (Tryd.prog.info? 171).bind (·.zero) = some (.int .i32 0) := by kernel_rfl
end Go.Proofs.YthefddclefimoaaDoor
