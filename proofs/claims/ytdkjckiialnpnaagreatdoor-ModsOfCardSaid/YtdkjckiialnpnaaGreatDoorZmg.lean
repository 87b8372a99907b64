/-
  The law answers true at every input, and leaves its arguments as they were: a part of the proof. CONDITIONS: the package-level tables start as the program's text lays them (the card ties them).
-/
import Derived.Test.YtdkjckiialnpnaaGreatDoorZmf
set_option linter.unusedVariables false
set_option linter.unusedSimpArgs false
namespace Go.Proofs.YtdkjckiialnpnaaGreatDoor
set_option maxRecDepth 1000000 in
theorem pc_h0 : heads 4294967296 (strongT [2, 7, 61]) pcL0 (pcL1 ++ (pcL2 ++ (pcL3 ++ (pcL4 ++ (pcL5 ++ (pcL6 ++ (pcL7 ++ (pcL8 ++ (pcL9 ++ (pcL10 ++ (pcL11 ++ (pcL12 ++ (pcL13 ++ (pcL14 ++ (pcL15 ++ (pcL16 ++ (pcL17 ++ (pcL18)))))))))))))))))) = true := by decide +kernel
set_option maxRecDepth 1000000 in
theorem pc_h1 : heads 4294967296 (strongT [2, 7, 61]) pcL1 (pcL2 ++ (pcL3 ++ (pcL4 ++ (pcL5 ++ (pcL6 ++ (pcL7 ++ (pcL8 ++ (pcL9 ++ (pcL10 ++ (pcL11 ++ (pcL12 ++ (pcL13 ++ (pcL14 ++ (pcL15 ++ (pcL16 ++ (pcL17 ++ (pcL18))))))))))))))))) = true := by decide +kernel
set_option maxRecDepth 1000000 in
theorem pc_h2 : heads 4294967296 (strongT [2, 7, 61]) pcL2 (pcL3 ++ (pcL4 ++ (pcL5 ++ (pcL6 ++ (pcL7 ++ (pcL8 ++ (pcL9 ++ (pcL10 ++ (pcL11 ++ (pcL12 ++ (pcL13 ++ (pcL14 ++ (pcL15 ++ (pcL16 ++ (pcL17 ++ (pcL18)))))))))))))))) = true := by decide +kernel
set_option maxRecDepth 1000000 in
theorem pc_h3 : heads 4294967296 (strongT [2, 7, 61]) pcL3 (pcL4 ++ (pcL5 ++ (pcL6 ++ (pcL7 ++ (pcL8 ++ (pcL9 ++ (pcL10 ++ (pcL11 ++ (pcL12 ++ (pcL13 ++ (pcL14 ++ (pcL15 ++ (pcL16 ++ (pcL17 ++ (pcL18))))))))))))))) = true := by decide +kernel
set_option maxRecDepth 1000000 in
theorem pc_h4 : heads 4294967296 (strongT [2, 7, 61]) pcL4 (pcL5 ++ (pcL6 ++ (pcL7 ++ (pcL8 ++ (pcL9 ++ (pcL10 ++ (pcL11 ++ (pcL12 ++ (pcL13 ++ (pcL14 ++ (pcL15 ++ (pcL16 ++ (pcL17 ++ (pcL18)))))))))))))) = true := by decide +kernel
set_option maxRecDepth 1000000 in
theorem pc_h5 : heads 4294967296 (strongT [2, 7, 61]) pcL5 (pcL6 ++ (pcL7 ++ (pcL8 ++ (pcL9 ++ (pcL10 ++ (pcL11 ++ (pcL12 ++ (pcL13 ++ (pcL14 ++ (pcL15 ++ (pcL16 ++ (pcL17 ++ (pcL18))))))))))))) = true := by decide +kernel
set_option maxRecDepth 1000000 in
theorem pc_h6 : heads 4294967296 (strongT [2, 7, 61]) pcL6 (pcL7 ++ (pcL8 ++ (pcL9 ++ (pcL10 ++ (pcL11 ++ (pcL12 ++ (pcL13 ++ (pcL14 ++ (pcL15 ++ (pcL16 ++ (pcL17 ++ (pcL18)))))))))))) = true := by decide +kernel
set_option maxRecDepth 1000000 in
theorem pc_h7 : heads 4294967296 (strongT [2, 7, 61]) pcL7 (pcL8 ++ (pcL9 ++ (pcL10 ++ (pcL11 ++ (pcL12 ++ (pcL13 ++ (pcL14 ++ (pcL15 ++ (pcL16 ++ (pcL17 ++ (pcL18))))))))))) = true := by decide +kernel
set_option maxRecDepth 1000000 in
theorem pc_h8 : heads 4294967296 (strongT [2, 7, 61]) pcL8 (pcL9 ++ (pcL10 ++ (pcL11 ++ (pcL12 ++ (pcL13 ++ (pcL14 ++ (pcL15 ++ (pcL16 ++ (pcL17 ++ (pcL18)))))))))) = true := by decide +kernel
set_option maxRecDepth 1000000 in
theorem pc_h9 : heads 4294967296 (strongT [2, 7, 61]) pcL9 (pcL10 ++ (pcL11 ++ (pcL12 ++ (pcL13 ++ (pcL14 ++ (pcL15 ++ (pcL16 ++ (pcL17 ++ (pcL18))))))))) = true := by decide +kernel
set_option maxRecDepth 1000000 in
theorem pc_h10 : heads 4294967296 (strongT [2, 7, 61]) pcL10 (pcL11 ++ (pcL12 ++ (pcL13 ++ (pcL14 ++ (pcL15 ++ (pcL16 ++ (pcL17 ++ (pcL18)))))))) = true := by decide +kernel
set_option maxRecDepth 1000000 in
theorem pc_h11 : heads 4294967296 (strongT [2, 7, 61]) pcL11 (pcL12 ++ (pcL13 ++ (pcL14 ++ (pcL15 ++ (pcL16 ++ (pcL17 ++ (pcL18))))))) = true := by decide +kernel
set_option maxRecDepth 1000000 in
theorem pc_h12 : heads 4294967296 (strongT [2, 7, 61]) pcL12 (pcL13 ++ (pcL14 ++ (pcL15 ++ (pcL16 ++ (pcL17 ++ (pcL18)))))) = true := by decide +kernel
set_option maxRecDepth 1000000 in
theorem pc_h13 : heads 4294967296 (strongT [2, 7, 61]) pcL13 (pcL14 ++ (pcL15 ++ (pcL16 ++ (pcL17 ++ (pcL18))))) = true := by decide +kernel
set_option maxRecDepth 1000000 in
theorem pc_h14 : heads 4294967296 (strongT [2, 7, 61]) pcL14 (pcL15 ++ (pcL16 ++ (pcL17 ++ (pcL18)))) = true := by decide +kernel
set_option maxRecDepth 1000000 in
theorem pc_h15 : heads 4294967296 (strongT [2, 7, 61]) pcL15 (pcL16 ++ (pcL17 ++ (pcL18))) = true := by decide +kernel
set_option maxRecDepth 1000000 in
theorem pc_h16 : heads 4294967296 (strongT [2, 7, 61]) pcL16 (pcL17 ++ (pcL18)) = true := by decide +kernel
set_option maxRecDepth 1000000 in
theorem pc_h17 : heads 4294967296 (strongT [2, 7, 61]) pcL17 (pcL18) = true := by decide +kernel
set_option maxRecDepth 1000000 in
theorem pc_h18 : heads 4294967296 (strongT [2, 7, 61]) pcL18 [] = true := by decide +kernel
end Go.Proofs.YtdkjckiialnpnaaGreatDoor
