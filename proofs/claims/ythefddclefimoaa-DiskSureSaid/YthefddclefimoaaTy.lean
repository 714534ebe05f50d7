/- What the program says of its types: sizes, fields, zero values. -/
import Derived.Test.YthefddclefimoaaDrA
namespace Go.Proofs.Ythefddclefimoaa
set_option linter.unusedVariables false
set_option maxRecDepth 8000
theorem ty_one_1 : oneB Try.prog 1 = true := by kernel_rfl
theorem ty_size_1_1 : sizeB Try.prog 1 1 = true := by kernel_rfl
theorem ty_one_2 : oneB Try.prog 2 = true := by kernel_rfl
theorem ty_size_2_1 : sizeB Try.prog 2 1 = true := by kernel_rfl
theorem ty_zero_2 : (Try.prog.info? 2).bind (·.zero) = some (.int .i64 0) := by kernel_rfl
theorem ty_one_3 : oneB Try.prog 3 = true := by kernel_rfl
theorem ty_size_3_1 : sizeB Try.prog 3 1 = true := by kernel_rfl
theorem ty_zero_3 : (Try.prog.info? 3).bind (·.zero) = some (.int .i64 0) := by kernel_rfl
theorem ty_one_4 : oneB Try.prog 4 = true := by kernel_rfl
theorem ty_size_4_1 : sizeB Try.prog 4 1 = true := by kernel_rfl
theorem ty_zero_4 : (Try.prog.info? 4).bind (·.zero) = some (.bool false) := by kernel_rfl
theorem ty_one_5 : oneB Try.prog 5 = true := by kernel_rfl
theorem ty_size_5_1 : sizeB Try.prog 5 1 = true := by kernel_rfl
theorem ty_zero_5 : (Try.prog.info? 5).bind (·.zero) = some (.int .u8 0) := by kernel_rfl
theorem ty_one_6 : oneB Try.prog 6 = true := by kernel_rfl
theorem ty_size_6_1 : sizeB Try.prog 6 1 = true := by kernel_rfl
theorem ty_zero_6 : (Try.prog.info? 6).bind (·.zero) = some (.int .u8 0) := by kernel_rfl
theorem ty_agg_7_4 : aggB Try.prog 7 4 = true := by kernel_rfl
theorem ty_size_7_4 : sizeB Try.prog 7 4 = true := by kernel_rfl
theorem ty_fld_7_0_0 : fldB Try.prog 7 0 0 = true := by kernel_rfl
theorem ty_fld_7_1_1 : fldB Try.prog 7 1 1 = true := by kernel_rfl
theorem ty_fld_7_2_2 : fldB Try.prog 7 2 2 = true := by kernel_rfl
theorem ty_fld_7_3_3 : fldB Try.prog 7 3 3 = true := by kernel_rfl
theorem ty_zero_7 : (Try.prog.info? 7).bind (·.zero) = some (.agg #[.int .i64 0, .int .i64 0, .bool false, .int .u8 0]) := by kernel_rfl
theorem ty_agg_8_4 : aggB Try.prog 8 4 = true := by kernel_rfl
theorem ty_size_8_4 : sizeB Try.prog 8 4 = true := by kernel_rfl
theorem ty_fld_8_0_0 : fldB Try.prog 8 0 0 = true := by kernel_rfl
theorem ty_fld_8_1_1 : fldB Try.prog 8 1 1 = true := by kernel_rfl
theorem ty_fld_8_2_2 : fldB Try.prog 8 2 2 = true := by kernel_rfl
theorem ty_fld_8_3_3 : fldB Try.prog 8 3 3 = true := by kernel_rfl
theorem ty_zero_8 : (Try.prog.info? 8).bind (·.zero) = some (.agg #[.int .i64 0, .int .i64 0, .bool false, .int .u8 0]) := by kernel_rfl
theorem ty_one_9 : oneB Try.prog 9 = true := by kernel_rfl
theorem ty_size_9_1 : sizeB Try.prog 9 1 = true := by kernel_rfl
theorem ty_zero_9 : (Try.prog.info? 9).bind (·.zero) = some (.string ⟨#[]⟩) := by kernel_rfl
theorem ty_one_10 : oneB Try.prog 10 = true := by kernel_rfl
theorem ty_size_10_1 : sizeB Try.prog 10 1 = true := by kernel_rfl
theorem ty_zero_10 : (Try.prog.info? 10).bind (·.zero) = some (.string ⟨#[]⟩) := by kernel_rfl
theorem ty_one_11 : oneB Try.prog 11 = true := by kernel_rfl
theorem ty_size_11_1 : sizeB Try.prog 11 1 = true := by kernel_rfl
theorem ty_zero_11 : (Try.prog.info? 11).bind (·.zero) = some (.string ⟨#[]⟩) := by kernel_rfl
theorem ty_one_12 : oneB Try.prog 12 = true := by kernel_rfl
theorem ty_size_12_1 : sizeB Try.prog 12 1 = true := by kernel_rfl
theorem ty_zero_12 : (Try.prog.info? 12).bind (·.zero) = some (.int .u64 0) := by kernel_rfl
theorem ty_agg_13_2 : aggB Try.prog 13 2 = true := by kernel_rfl
theorem ty_size_13_2 : sizeB Try.prog 13 2 = true := by kernel_rfl
theorem ty_fld_13_0_0 : fldB Try.prog 13 0 0 = true := by kernel_rfl
theorem ty_fld_13_1_1 : fldB Try.prog 13 1 1 = true := by kernel_rfl
theorem ty_zero_13 : (Try.prog.info? 13).bind (·.zero) = some (.agg #[.string ⟨#[]⟩, .int .u64 0]) := by kernel_rfl
theorem ty_agg_14_2 : aggB Try.prog 14 2 = true := by kernel_rfl
theorem ty_size_14_2 : sizeB Try.prog 14 2 = true := by kernel_rfl
theorem ty_fld_14_0_0 : fldB Try.prog 14 0 0 = true := by kernel_rfl
theorem ty_fld_14_1_1 : fldB Try.prog 14 1 1 = true := by kernel_rfl
theorem ty_zero_14 : (Try.prog.info? 14).bind (·.zero) = some (.agg #[.string ⟨#[]⟩, .int .u64 0]) := by kernel_rfl
theorem ty_one_21 : oneB Try.prog 21 = true := by kernel_rfl
theorem ty_size_21_1 : sizeB Try.prog 21 1 = true := by kernel_rfl
theorem ty_zero_21 : (Try.prog.info? 21).bind (·.zero) = some (.int .i32 0) := by kernel_rfl
theorem ty_one_22 : oneB Try.prog 22 = true := by kernel_rfl
theorem ty_size_22_1 : sizeB Try.prog 22 1 = true := by kernel_rfl
theorem ty_slice_22 : sliceB Try.prog 22 128 = true := by kernel_rfl
theorem ty_ap_22 : apB Try.prog 22 128 128 = true := by kernel_rfl
theorem ty_zero_22 : (Try.prog.info? 22).bind (·.zero) = some (.slice none 0 0) := by kernel_rfl
theorem ty_one_23 : oneB Try.prog 23 = true := by kernel_rfl
theorem ty_size_23_1 : sizeB Try.prog 23 1 = true := by kernel_rfl
theorem ty_slice_23 : sliceB Try.prog 23 129 = true := by kernel_rfl
theorem ty_ap_23 : apB Try.prog 23 129 136 = true := by kernel_rfl
theorem ty_zero_23 : (Try.prog.info? 23).bind (·.zero) = some (.slice none 0 0) := by kernel_rfl
theorem ty_agg_24_4 : aggB Try.prog 24 4 = true := by kernel_rfl
theorem ty_size_24_4 : sizeB Try.prog 24 4 = true := by kernel_rfl
theorem ty_fld_24_0_0 : fldB Try.prog 24 0 0 = true := by kernel_rfl
theorem ty_fld_24_1_1 : fldB Try.prog 24 1 1 = true := by kernel_rfl
theorem ty_fld_24_2_2 : fldB Try.prog 24 2 2 = true := by kernel_rfl
theorem ty_fld_24_3_3 : fldB Try.prog 24 3 3 = true := by kernel_rfl
theorem ty_zero_24 : (Try.prog.info? 24).bind (·.zero) = some (.agg #[.slice none 0 0, .slice none 0 0, .int .i64 0, .bool false]) := by kernel_rfl
theorem ty_agg_25_4 : aggB Try.prog 25 4 = true := by kernel_rfl
theorem ty_size_25_4 : sizeB Try.prog 25 4 = true := by kernel_rfl
theorem ty_fld_25_0_0 : fldB Try.prog 25 0 0 = true := by kernel_rfl
theorem ty_fld_25_1_1 : fldB Try.prog 25 1 1 = true := by kernel_rfl
theorem ty_fld_25_2_2 : fldB Try.prog 25 2 2 = true := by kernel_rfl
theorem ty_fld_25_3_3 : fldB Try.prog 25 3 3 = true := by kernel_rfl
theorem ty_zero_25 : (Try.prog.info? 25).bind (·.zero) = some (.agg #[.slice none 0 0, .slice none 0 0, .int .i64 0, .bool false]) := by kernel_rfl
theorem ty_agg_26_128 : aggB Try.prog 26 128 = true := by kernel_rfl
theorem ty_size_26_128 : sizeB Try.prog 26 128 = true := by kernel_rfl
theorem ty_zero_26 : (Try.prog.info? 26).bind (·.zero) = some (.agg (Array.replicate 128 (.int .u8 0))) := by kernel_rfl
theorem ty_agg_27_128 : aggB Try.prog 27 128 = true := by kernel_rfl
theorem ty_size_27_128 : sizeB Try.prog 27 128 = true := by kernel_rfl
theorem ty_zero_27 : (Try.prog.info? 27).bind (·.zero) = some (.agg (Array.replicate 128 (.int .u8 0))) := by kernel_rfl
theorem ty_one_28 : oneB Try.prog 28 = true := by kernel_rfl
theorem ty_size_28_1 : sizeB Try.prog 28 1 = true := by kernel_rfl
theorem ty_one_29 : oneB Try.prog 29 = true := by kernel_rfl
theorem ty_size_29_1 : sizeB Try.prog 29 1 = true := by kernel_rfl
theorem ty_one_30 : oneB Try.prog 30 = true := by kernel_rfl
theorem ty_size_30_1 : sizeB Try.prog 30 1 = true := by kernel_rfl
theorem ty_one_31 : oneB Try.prog 31 = true := by kernel_rfl
theorem ty_size_31_1 : sizeB Try.prog 31 1 = true := by kernel_rfl
theorem ty_zero_31 : (Try.prog.info? 31).bind (·.zero) = some (.int .i64 0) := by kernel_rfl
theorem ty_one_33 : oneB Try.prog 33 = true := by kernel_rfl
theorem ty_size_33_1 : sizeB Try.prog 33 1 = true := by kernel_rfl
theorem ty_one_35 : oneB Try.prog 35 = true := by kernel_rfl
theorem ty_size_35_1 : sizeB Try.prog 35 1 = true := by kernel_rfl
theorem ty_one_36 : oneB Try.prog 36 = true := by kernel_rfl
theorem ty_size_36_1 : sizeB Try.prog 36 1 = true := by kernel_rfl
theorem ty_one_37 : oneB Try.prog 37 = true := by kernel_rfl
theorem ty_size_37_1 : sizeB Try.prog 37 1 = true := by kernel_rfl
theorem ty_one_38 : oneB Try.prog 38 = true := by kernel_rfl
theorem ty_size_38_1 : sizeB Try.prog 38 1 = true := by kernel_rfl
theorem ty_slice_38 : sliceB Try.prog 38 2 = true := by kernel_rfl
theorem ty_ap_38 : apB Try.prog 38 2 2 = true := by kernel_rfl
theorem ty_zero_38 : (Try.prog.info? 38).bind (·.zero) = some (.slice none 0 0) := by kernel_rfl
theorem ty_one_39 : oneB Try.prog 39 = true := by kernel_rfl
theorem ty_size_39_1 : sizeB Try.prog 39 1 = true := by kernel_rfl
theorem ty_one_40 : oneB Try.prog 40 = true := by kernel_rfl
theorem ty_size_40_1 : sizeB Try.prog 40 1 = true := by kernel_rfl
theorem ty_one_41 : oneB Try.prog 41 = true := by kernel_rfl
theorem ty_size_41_1 : sizeB Try.prog 41 1 = true := by kernel_rfl
theorem ty_one_42 : oneB Try.prog 42 = true := by kernel_rfl
theorem ty_size_42_1 : sizeB Try.prog 42 1 = true := by kernel_rfl
theorem ty_one_43 : oneB Try.prog 43 = true := by kernel_rfl
theorem ty_size_43_1 : sizeB Try.prog 43 1 = true := by kernel_rfl
theorem ty_one_44 : oneB Try.prog 44 = true := by kernel_rfl
theorem ty_size_44_1 : sizeB Try.prog 44 1 = true := by kernel_rfl
theorem ty_one_45 : oneB Try.prog 45 = true := by kernel_rfl
theorem ty_size_45_1 : sizeB Try.prog 45 1 = true := by kernel_rfl
theorem ty_slice_45 : sliceB Try.prog 45 3 = true := by kernel_rfl
theorem ty_ap_45 : apB Try.prog 45 3 3 = true := by kernel_rfl
theorem ty_zero_45 : (Try.prog.info? 45).bind (·.zero) = some (.slice none 0 0) := by kernel_rfl
theorem ty_agg_46_8 : aggB Try.prog 46 8 = true := by kernel_rfl
theorem ty_size_46_8 : sizeB Try.prog 46 8 = true := by kernel_rfl
theorem ty_zero_46 : (Try.prog.info? 46).bind (·.zero) = some (.agg #[.int .u8 0, .int .u8 0, .int .u8 0, .int .u8 0, .int .u8 0, .int .u8 0, .int .u8 0, .int .u8 0]) := by kernel_rfl
theorem ty_agg_47_8 : aggB Try.prog 47 8 = true := by kernel_rfl
theorem ty_size_47_8 : sizeB Try.prog 47 8 = true := by kernel_rfl
theorem ty_zero_47 : (Try.prog.info? 47).bind (·.zero) = some (.agg #[.int .i64 0, .int .i64 0, .int .i64 0, .int .i64 0, .int .i64 0, .int .i64 0, .int .i64 0, .int .i64 0]) := by kernel_rfl
theorem ty_agg_48_3 : aggB Try.prog 48 3 = true := by kernel_rfl
theorem ty_size_48_3 : sizeB Try.prog 48 3 = true := by kernel_rfl
theorem ty_fld_48_0_0 : fldB Try.prog 48 0 0 = true := by kernel_rfl
theorem ty_fld_48_1_1 : fldB Try.prog 48 1 1 = true := by kernel_rfl
theorem ty_fld_48_2_2 : fldB Try.prog 48 2 2 = true := by kernel_rfl
theorem ty_zero_48 : (Try.prog.info? 48).bind (·.zero) = some (.agg #[.bool false, .int .u8 0, .int .u8 0]) := by kernel_rfl
theorem ty_agg_49_3 : aggB Try.prog 49 3 = true := by kernel_rfl
theorem ty_size_49_3 : sizeB Try.prog 49 3 = true := by kernel_rfl
theorem ty_fld_49_0_0 : fldB Try.prog 49 0 0 = true := by kernel_rfl
theorem ty_fld_49_1_1 : fldB Try.prog 49 1 1 = true := by kernel_rfl
theorem ty_fld_49_2_2 : fldB Try.prog 49 2 2 = true := by kernel_rfl
theorem ty_zero_49 : (Try.prog.info? 49).bind (·.zero) = some (.agg #[.bool false, .int .u8 0, .int .u8 0]) := by kernel_rfl
theorem ty_one_50 : oneB Try.prog 50 = true := by kernel_rfl
theorem ty_size_50_1 : sizeB Try.prog 50 1 = true := by kernel_rfl
theorem ty_one_51 : oneB Try.prog 51 = true := by kernel_rfl
theorem ty_size_51_1 : sizeB Try.prog 51 1 = true := by kernel_rfl
theorem ty_agg_52_2 : aggB Try.prog 52 2 = true := by kernel_rfl
theorem ty_size_52_2 : sizeB Try.prog 52 2 = true := by kernel_rfl
theorem ty_zero_52 : (Try.prog.info? 52).bind (·.zero) = some (.agg #[.int .i64 0, .int .i64 0]) := by kernel_rfl
theorem ty_one_53 : oneB Try.prog 53 = true := by kernel_rfl
theorem ty_size_53_1 : sizeB Try.prog 53 1 = true := by kernel_rfl
theorem ty_agg_54_2 : aggB Try.prog 54 2 = true := by kernel_rfl
theorem ty_size_54_2 : sizeB Try.prog 54 2 = true := by kernel_rfl
theorem ty_fld_54_0_0 : fldB Try.prog 54 0 0 = true := by kernel_rfl
theorem ty_fld_54_1_1 : fldB Try.prog 54 1 1 = true := by kernel_rfl
theorem ty_zero_54 : (Try.prog.info? 54).bind (·.zero) = some (.agg #[.int .u8 0, .int .u8 0]) := by kernel_rfl
theorem ty_agg_55_2 : aggB Try.prog 55 2 = true := by kernel_rfl
theorem ty_size_55_2 : sizeB Try.prog 55 2 = true := by kernel_rfl
theorem ty_fld_55_0_0 : fldB Try.prog 55 0 0 = true := by kernel_rfl
theorem ty_fld_55_1_1 : fldB Try.prog 55 1 1 = true := by kernel_rfl
theorem ty_zero_55 : (Try.prog.info? 55).bind (·.zero) = some (.agg #[.int .u8 0, .int .u8 0]) := by kernel_rfl
theorem ty_one_56 : oneB Try.prog 56 = true := by kernel_rfl
theorem ty_size_56_1 : sizeB Try.prog 56 1 = true := by kernel_rfl
theorem ty_one_57 : oneB Try.prog 57 = true := by kernel_rfl
theorem ty_size_57_1 : sizeB Try.prog 57 1 = true := by kernel_rfl
theorem ty_agg_58_129 : aggB Try.prog 58 129 = true := by kernel_rfl
theorem ty_size_58_129 : sizeB Try.prog 58 129 = true := by kernel_rfl
theorem ty_fld_58_0_0 : fldB Try.prog 58 0 0 = true := by kernel_rfl
theorem ty_fld_58_1_1 : fldB Try.prog 58 1 1 = true := by kernel_rfl
theorem ty_agg_59_129 : aggB Try.prog 59 129 = true := by kernel_rfl
theorem ty_size_59_129 : sizeB Try.prog 59 129 = true := by kernel_rfl
theorem ty_fld_59_0_0 : fldB Try.prog 59 0 0 = true := by kernel_rfl
theorem ty_fld_59_1_1 : fldB Try.prog 59 1 1 = true := by kernel_rfl
theorem ty_one_61 : oneB Try.prog 61 = true := by kernel_rfl
theorem ty_size_61_1 : sizeB Try.prog 61 1 = true := by kernel_rfl
theorem ty_one_62 : oneB Try.prog 62 = true := by kernel_rfl
theorem ty_size_62_1 : sizeB Try.prog 62 1 = true := by kernel_rfl
theorem ty_one_63 : oneB Try.prog 63 = true := by kernel_rfl
theorem ty_size_63_1 : sizeB Try.prog 63 1 = true := by kernel_rfl
theorem ty_one_64 : oneB Try.prog 64 = true := by kernel_rfl
theorem ty_size_64_1 : sizeB Try.prog 64 1 = true := by kernel_rfl
theorem ty_one_65 : oneB Try.prog 65 = true := by kernel_rfl
theorem ty_size_65_1 : sizeB Try.prog 65 1 = true := by kernel_rfl
theorem ty_one_66 : oneB Try.prog 66 = true := by kernel_rfl
theorem ty_size_66_1 : sizeB Try.prog 66 1 = true := by kernel_rfl
theorem ty_one_67 : oneB Try.prog 67 = true := by kernel_rfl
theorem ty_size_67_1 : sizeB Try.prog 67 1 = true := by kernel_rfl
theorem ty_one_68 : oneB Try.prog 68 = true := by kernel_rfl
theorem ty_size_68_1 : sizeB Try.prog 68 1 = true := by kernel_rfl
theorem ty_one_69 : oneB Try.prog 69 = true := by kernel_rfl
theorem ty_size_69_1 : sizeB Try.prog 69 1 = true := by kernel_rfl
theorem ty_one_70 : oneB Try.prog 70 = true := by kernel_rfl
theorem ty_size_70_1 : sizeB Try.prog 70 1 = true := by kernel_rfl
theorem ty_slice_70 : sliceB Try.prog 70 1 = true := by kernel_rfl
theorem ty_ap_70 : apB Try.prog 70 1 1 = true := by kernel_rfl
theorem ty_zero_70 : (Try.prog.info? 70).bind (·.zero) = some (.slice none 0 0) := by kernel_rfl
theorem ty_one_71 : oneB Try.prog 71 = true := by kernel_rfl
theorem ty_size_71_1 : sizeB Try.prog 71 1 = true := by kernel_rfl
theorem ty_one_77 : oneB Try.prog 77 = true := by kernel_rfl
theorem ty_size_77_1 : sizeB Try.prog 77 1 = true := by kernel_rfl
theorem ty_one_78 : oneB Try.prog 78 = true := by kernel_rfl
theorem ty_size_78_1 : sizeB Try.prog 78 1 = true := by kernel_rfl
theorem ty_zero_78 : (Try.prog.info? 78).bind (·.zero) = some (.int .u32 0) := by kernel_rfl
theorem ty_one_79 : oneB Try.prog 79 = true := by kernel_rfl
theorem ty_size_79_1 : sizeB Try.prog 79 1 = true := by kernel_rfl
theorem ty_zero_79 : (Try.prog.info? 79).bind (·.zero) = some (.int .u8 0) := by kernel_rfl
theorem ty_one_80 : oneB Try.prog 80 = true := by kernel_rfl
theorem ty_size_80_1 : sizeB Try.prog 80 1 = true := by kernel_rfl
theorem ty_zero_80 : (Try.prog.info? 80).bind (·.zero) = some (.int .u8 0) := by kernel_rfl
theorem ty_one_81 : oneB Try.prog 81 = true := by kernel_rfl
theorem ty_size_81_1 : sizeB Try.prog 81 1 = true := by kernel_rfl
theorem ty_one_83 : oneB Try.prog 83 = true := by kernel_rfl
theorem ty_size_83_1 : sizeB Try.prog 83 1 = true := by kernel_rfl
theorem ty_zero_83 : (Try.prog.info? 83).bind (·.zero) = some (.int .i32 0) := by kernel_rfl
theorem ty_one_84 : oneB Try.prog 84 = true := by kernel_rfl
theorem ty_size_84_1 : sizeB Try.prog 84 1 = true := by kernel_rfl
theorem ty_zero_84 : (Try.prog.info? 84).bind (·.zero) = some (.int .i32 0) := by kernel_rfl
end Go.Proofs.Ythefddclefimoaa
