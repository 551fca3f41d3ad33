/-
  Helpers: Cmd, RdI, CmdS, Steps.
-/
import Derived.Test.YtbabakgjkloabaaGreatDoorPack4
set_option linter.unusedVariables false
set_option linter.unusedSimpArgs false
set_option maxRecDepth 100000
set_option maxHeartbeats 16000000
namespace Go.Proofs.YtbabakgjkloabaaGreatDoor
section
open Go.ChangeShapes Go.WideShapes Go.ChangeAt Go.RowKit Go.Deep Go.Joins
attribute [local go_sem ↓] Go.wp_at_zero Go.wp_at_succ
theorem AV(ao:Option Addr)(n cap:Nat)(F T G:Nat->Int)(a b:Int)(hn:n<=1048576)(w:World)(hr:Row w ao n F T G):
  Calls Tryz.prog 115 #[.agg #[.int .i64 1,.slice ao n cap,.int .i64 a,.int .i64 b]] w fun e w'=>e=.returned (.tuple #[kY 1 ao n cap a b,.bool (bL 1 n F T G a b)])/\Below w.heap.size w w':=by
 ·skip
  have hd:kY 1 ao n cap a b=.iface 160 (.agg #[]):=by simp[kY]
  rw[hd];clear hd
  by_cases hn0:n=0
  ·subst hn0
   by_cases ha:a=0
   ·subst ha
    by_cases hb:b=0
    ·subst hb
     rw[show bL 1 0 F T G 0 0=true from by simp[bL]];go_enter Tryz.func115,Tryz.ntmps115;go_wp2;exact bodyPost_ret (v:=.tuple #[.iface 160 (.agg #[]),.bool true]) (by simp[results,Tryz.results115,go_sem]) rfl ⟨rfl,(Below.refl _ _).alloc nl _⟩
    ·have hb':¬ (b:Int)=0:=hb
     rw[show bL 1 0 F T G 0 b=false from by simp[bL,hb]];go_enter Tryz.func115,Tryz.ntmps115;go_wp2;exact bodyPost_ret (v:=.tuple #[.iface 160 (.agg #[]),.bool false]) (by simp[results,Tryz.results115,go_sem,hb]) rfl ⟨rfl,(Below.refl _ _).alloc nl _⟩
   ·skip
    rw[show bL 1 0 F T G a b=false from by simp[bL,ha]];go_enter Tryz.func115,Tryz.ntmps115;go_wp2;exact bodyPost_ret (v:=.tuple #[.iface 160 (.agg #[]),.bool false]) (by simp[results,Tryz.results115,go_sem,ha]) rfl ⟨rfl,(Below.refl _ _).alloc nl _⟩
  ·have hn0':¬ (n:Int)=0:=by omega
   rw[show bL 1 n F T G a b=false from by simp[bL,hn0]]
   by_cases ha:a=0
   ·subst ha
    by_cases hb:b=0
    ·subst hb
     go_enter Tryz.func115,Tryz.ntmps115;go_wp2;exact bodyPost_ret (v:=.tuple #[.iface 160 (.agg #[]),.bool false]) (by simp[results,Tryz.results115,go_sem,hn0,hn0']) rfl ⟨rfl,(Below.refl _ _).alloc nl _⟩
    ·skip
     go_enter Tryz.func115,Tryz.ntmps115;go_wp2;exact bodyPost_ret (v:=.tuple #[.iface 160 (.agg #[]),.bool false]) (by simp[results,Tryz.results115,go_sem,hn0,hn0']) rfl ⟨rfl,(Below.refl _ _).alloc nl _⟩
   ·skip
    go_enter Tryz.func115,Tryz.ntmps115;go_wp2;exact bodyPost_ret (v:=.tuple #[.iface 160 (.agg #[]),.bool false]) (by simp[results,Tryz.results115,go_sem,hn0,hn0']) rfl ⟨rfl,(Below.refl _ _).alloc nl _⟩
theorem AW(ao:Option Addr)(n cap:Nat)(F T G:Nat->Int)(a b:Int)(hn:n<=1048576)(w:World)(hr:Row w ao n F T G):
  Calls Tryz.prog 115 #[.agg #[.int .i64 2,.slice ao n cap,.int .i64 a,.int .i64 b]] w fun e w'=>e=.returned (.tuple #[kY 2 ao n cap a b,.bool (bL 2 n F T G a b)])/\Below w.heap.size w w':=by
 ·skip
  have hd:kY 2 ao n cap a b=.iface 162 (.agg #[.slice ao n cap]):=by simp[kY]
  rw[hd];clear hd;rcases bq (fX F T G n) with hbt|hbt
  ·have HBA:Hid (∀ W,Row W ao n F T G->Calls Tryz.prog 127 #[.slice ao n cap] W fun e w'=>e=.returned (.bool true)/\Below W.heap.size W w'):=fun W h=>(qL ao n cap F T G hn W h).mono (fun e w' h'=>⟨by rw[h'.1,hbt],h'.2⟩)
   by_cases ha:a=0
   ·subst ha
    by_cases hb:b=0
    ·subst hb
     rw[show bL 2 n F T G 0 0=true from by simp[bL,hbt]];clear hbt;have hal:=(Below.refl w.heap.size w).alloc nl (.cells #[.int .i64 2,.slice ao n cap,.int .i64 0,.int .i64 0] 78);have hrd:=(hr.below hal nl).below (Below.refl _ (w.alloc (.cells #[.int .i64 2,.slice ao n cap,.int .i64 0,.int .i64 0] 78))).drew nl;have x0:(w.alloc (.cells #[.int .i64 2,.slice ao n cap,.int .i64 0,.int .i64 0] 78)).cell? ⟨w.heap.size,0,none⟩=some (.int .i64 2):=by simp[go_sem]
     have x1:(w.alloc (.cells #[.int .i64 2,.slice ao n cap,.int .i64 0,.int .i64 0] 78)).cell? ⟨w.heap.size,1,none⟩=some (.slice ao n cap):=by simp[go_sem]
     have x2:(w.alloc (.cells #[.int .i64 2,.slice ao n cap,.int .i64 0,.int .i64 0] 78)).cell? ⟨w.heap.size,2,none⟩=some (.int .i64 0):=by simp[go_sem]
     have x3:(w.alloc (.cells #[.int .i64 2,.slice ao n cap,.int .i64 0,.int .i64 0] 78)).cell? ⟨w.heap.size,3,none⟩=some (.int .i64 0):=by simp[go_sem]
     go_enter Tryz.func115,Tryz.ntmps115
     go_wp2_with fail
     go_region_held3 (fun w'=>w'.cell? ⟨w.heap.size,1,none⟩=some (.slice ao n cap))
      (first|(go_split_ands;exact aB hb1 nl (by assumption))|go_keep)
      (first|(go_at_call 127;refine (HBA.out _ hrd).mono ?_;rintro e w1 ⟨rfl,hb1⟩))
     all_goals
      go_wp2;exact bodyPost_ret (v:=.tuple #[.iface 162 (.agg #[.slice ao n cap]),.bool true]) (by simp[results,Tryz.results115,go_sem]) rfl ⟨rfl,aF hal.drew nl hb1⟩
    ·skip
     rw[show bL 2 n F T G 0 b=false from by simp[bL,hb]];clear hbt;have hal:=(Below.refl w.heap.size w).alloc nl (.cells #[.int .i64 2,.slice ao n cap,.int .i64 0,.int .i64 b] 78);have hrd:=(hr.below hal nl).below (Below.refl _ (w.alloc (.cells #[.int .i64 2,.slice ao n cap,.int .i64 0,.int .i64 b] 78))).drew nl;have x0:(w.alloc (.cells #[.int .i64 2,.slice ao n cap,.int .i64 0,.int .i64 b] 78)).cell? ⟨w.heap.size,0,none⟩=some (.int .i64 2):=by simp[go_sem]
     have x1:(w.alloc (.cells #[.int .i64 2,.slice ao n cap,.int .i64 0,.int .i64 b] 78)).cell? ⟨w.heap.size,1,none⟩=some (.slice ao n cap):=by simp[go_sem]
     have x2:(w.alloc (.cells #[.int .i64 2,.slice ao n cap,.int .i64 0,.int .i64 b] 78)).cell? ⟨w.heap.size,2,none⟩=some (.int .i64 0):=by simp[go_sem]
     have x3:(w.alloc (.cells #[.int .i64 2,.slice ao n cap,.int .i64 0,.int .i64 b] 78)).cell? ⟨w.heap.size,3,none⟩=some (.int .i64 b):=by simp[go_sem]
     go_enter Tryz.func115,Tryz.ntmps115
     go_wp2_with fail
     go_region_held3 (fun w'=>w'.cell? ⟨w.heap.size,1,none⟩=some (.slice ao n cap))
      (first|(go_split_ands;exact aB hb1 nl (by assumption))|go_keep)
      (first|(go_at_call 127;refine (HBA.out _ hrd).mono ?_;rintro e w1 ⟨rfl,hb1⟩))
     all_goals
      go_wp2;exact bodyPost_ret (v:=.tuple #[.iface 162 (.agg #[.slice ao n cap]),.bool false]) (by simp[results,Tryz.results115,go_sem,hb]) rfl ⟨rfl,aF hal.drew nl hb1⟩
   ·skip
    rw[show bL 2 n F T G a b=false from by simp[bL,ha]];clear hbt;have hal:=(Below.refl w.heap.size w).alloc nl (.cells #[.int .i64 2,.slice ao n cap,.int .i64 a,.int .i64 b] 78);have hrd:=(hr.below hal nl).below (Below.refl _ (w.alloc (.cells #[.int .i64 2,.slice ao n cap,.int .i64 a,.int .i64 b] 78))).drew nl;have x0:(w.alloc (.cells #[.int .i64 2,.slice ao n cap,.int .i64 a,.int .i64 b] 78)).cell? ⟨w.heap.size,0,none⟩=some (.int .i64 2):=by simp[go_sem]
    have x1:(w.alloc (.cells #[.int .i64 2,.slice ao n cap,.int .i64 a,.int .i64 b] 78)).cell? ⟨w.heap.size,1,none⟩=some (.slice ao n cap):=by simp[go_sem]
    have x2:(w.alloc (.cells #[.int .i64 2,.slice ao n cap,.int .i64 a,.int .i64 b] 78)).cell? ⟨w.heap.size,2,none⟩=some (.int .i64 a):=by simp[go_sem]
    have x3:(w.alloc (.cells #[.int .i64 2,.slice ao n cap,.int .i64 a,.int .i64 b] 78)).cell? ⟨w.heap.size,3,none⟩=some (.int .i64 b):=by simp[go_sem]
    go_enter Tryz.func115,Tryz.ntmps115
    go_wp2_with fail
    go_region_held3 (fun w'=>w'.cell? ⟨w.heap.size,1,none⟩=some (.slice ao n cap))
     (first|(go_split_ands;exact aB hb1 nl (by assumption))|go_keep)
     (first|(go_at_call 127;refine (HBA.out _ hrd).mono ?_;rintro e w1 ⟨rfl,hb1⟩))
    all_goals
     go_wp2;exact bodyPost_ret (v:=.tuple #[.iface 162 (.agg #[.slice ao n cap]),.bool false]) (by simp[results,Tryz.results115,go_sem,ha]) rfl ⟨rfl,aF hal.drew nl hb1⟩
  ·have HBA:Hid (∀ W,Row W ao n F T G->Calls Tryz.prog 127 #[.slice ao n cap] W fun e w'=>e=.returned (.bool false)/\Below W.heap.size W w'):=fun W h=>(qL ao n cap F T G hn W h).mono (fun e w' h'=>⟨by rw[h'.1,hbt],h'.2⟩)
   by_cases ha:a=0
   ·subst ha
    by_cases hb:b=0
    ·subst hb
     rw[show bL 2 n F T G 0 0=false from by simp[bL,hbt]];clear hbt;have hal:=(Below.refl w.heap.size w).alloc nl (.cells #[.int .i64 2,.slice ao n cap,.int .i64 0,.int .i64 0] 78);have hrd:=(hr.below hal nl).below (Below.refl _ (w.alloc (.cells #[.int .i64 2,.slice ao n cap,.int .i64 0,.int .i64 0] 78))).drew nl;have x0:(w.alloc (.cells #[.int .i64 2,.slice ao n cap,.int .i64 0,.int .i64 0] 78)).cell? ⟨w.heap.size,0,none⟩=some (.int .i64 2):=by simp[go_sem]
     have x1:(w.alloc (.cells #[.int .i64 2,.slice ao n cap,.int .i64 0,.int .i64 0] 78)).cell? ⟨w.heap.size,1,none⟩=some (.slice ao n cap):=by simp[go_sem]
     have x2:(w.alloc (.cells #[.int .i64 2,.slice ao n cap,.int .i64 0,.int .i64 0] 78)).cell? ⟨w.heap.size,2,none⟩=some (.int .i64 0):=by simp[go_sem]
     have x3:(w.alloc (.cells #[.int .i64 2,.slice ao n cap,.int .i64 0,.int .i64 0] 78)).cell? ⟨w.heap.size,3,none⟩=some (.int .i64 0):=by simp[go_sem]
     go_enter Tryz.func115,Tryz.ntmps115
     go_wp2_with fail
     refine wp_region_held_drew (S:=fun w'=>w'.cell? ⟨w.heap.size,1,none⟩=some (.slice ao n cap)) (by kernel_rfl) x1 (fun hS=>?_);refine tK 0 (some 30) (.pointer (some ⟨w.heap.size,1,none⟩)) rfl rfl hS (fun w hSw=>by go_simp) ?_;simp only[pS];refine tK 1 (some 31) (.slice ao n cap) rfl rfl hS (fun w hSw=>by go_simp) ?_;simp only[pS];refine tK 2 (some 32) (.agg #[.slice ao n cap]) rfl rfl hS (fun w hSw=>by go_simp) ?_;simp only[pS];refine tK 3 (some 33) (.iface 162 (.agg #[.slice ao n cap])) rfl rfl hS (fun w hSw=>by go_simp) ?_;simp only[pS];refine tK 4 (some 34) (.pointer (some ⟨w.heap.size,1,none⟩)) rfl rfl hS (fun w hSw=>by go_simp) ?_;simp only[pS];refine tK 5 (some 35) (.slice ao n cap) rfl rfl hS (fun w hSw=>by go_simp) ?_;simp only[pS];refine cZ 6 _ rfl (by kernel_rfl) (by rfl) ?_;go_simp;refine (HBA.out _ hrd).mono ?_;rintro e w1 ⟨rfl,hb1⟩;have hS1:=aB hb1 nl x1;refine⟨hS1,?_⟩;refine tK 7 (some 37) (.bool false) rfl rfl hS1 (fun w hSw=>by go_simp) ?_;simp only[pS];refine sK 8 (some 38) rfl rfl hS1 ?_;simp only[pS];refine tK 9 (some 39) (.bool false) rfl rfl hS1 (fun w hSw=>by go_simp) ?_;simp only[pS];refine tK 10 (some 2) (.iface 162 (.agg #[.slice ao n cap])) rfl rfl hS1 (fun w hSw=>by go_simp) ?_;simp only[pS];refine tK 11 (some 3) (.bool false) rfl rfl hS1 (fun w hSw=>by go_simp) ?_;simp only[pS];refine wpAnyH_done (by kernel_rfl) ?_ _
     all_goals
      go_wp2;exact bodyPost_ret (v:=.tuple #[.iface 162 (.agg #[.slice ao n cap]),.bool false]) (by simp[results,Tryz.results115,go_sem]) rfl ⟨rfl,aF hal.drew nl hb1⟩
    ·skip
     rw[show bL 2 n F T G 0 b=false from by simp[bL,hb]];clear hbt;have hal:=(Below.refl w.heap.size w).alloc nl (.cells #[.int .i64 2,.slice ao n cap,.int .i64 0,.int .i64 b] 78);have hrd:=(hr.below hal nl).below (Below.refl _ (w.alloc (.cells #[.int .i64 2,.slice ao n cap,.int .i64 0,.int .i64 b] 78))).drew nl;have x0:(w.alloc (.cells #[.int .i64 2,.slice ao n cap,.int .i64 0,.int .i64 b] 78)).cell? ⟨w.heap.size,0,none⟩=some (.int .i64 2):=by simp[go_sem]
     have x1:(w.alloc (.cells #[.int .i64 2,.slice ao n cap,.int .i64 0,.int .i64 b] 78)).cell? ⟨w.heap.size,1,none⟩=some (.slice ao n cap):=by simp[go_sem]
     have x2:(w.alloc (.cells #[.int .i64 2,.slice ao n cap,.int .i64 0,.int .i64 b] 78)).cell? ⟨w.heap.size,2,none⟩=some (.int .i64 0):=by simp[go_sem]
     have x3:(w.alloc (.cells #[.int .i64 2,.slice ao n cap,.int .i64 0,.int .i64 b] 78)).cell? ⟨w.heap.size,3,none⟩=some (.int .i64 b):=by simp[go_sem]
     go_enter Tryz.func115,Tryz.ntmps115
     go_wp2_with fail
     refine wp_region_held_drew (S:=fun w'=>w'.cell? ⟨w.heap.size,1,none⟩=some (.slice ao n cap)) (by kernel_rfl) x1 (fun hS=>?_);refine tK 0 (some 30) (.pointer (some ⟨w.heap.size,1,none⟩)) rfl rfl hS (fun w hSw=>by go_simp) ?_;simp only[pS];refine tK 1 (some 31) (.slice ao n cap) rfl rfl hS (fun w hSw=>by go_simp) ?_;simp only[pS];refine tK 2 (some 32) (.agg #[.slice ao n cap]) rfl rfl hS (fun w hSw=>by go_simp) ?_;simp only[pS];refine tK 3 (some 33) (.iface 162 (.agg #[.slice ao n cap])) rfl rfl hS (fun w hSw=>by go_simp) ?_;simp only[pS];refine tK 4 (some 34) (.pointer (some ⟨w.heap.size,1,none⟩)) rfl rfl hS (fun w hSw=>by go_simp) ?_;simp only[pS];refine tK 5 (some 35) (.slice ao n cap) rfl rfl hS (fun w hSw=>by go_simp) ?_;simp only[pS];refine cZ 6 _ rfl (by kernel_rfl) (by rfl) ?_;go_simp;refine (HBA.out _ hrd).mono ?_;rintro e w1 ⟨rfl,hb1⟩;have hS1:=aB hb1 nl x1;refine⟨hS1,?_⟩;refine tK 7 (some 37) (.bool false) rfl rfl hS1 (fun w hSw=>by go_simp) ?_;simp only[pS];refine sK 8 (some 38) rfl rfl hS1 ?_;simp only[pS];refine tK 9 (some 39) (.bool false) rfl rfl hS1 (fun w hSw=>by go_simp) ?_;simp only[pS];refine tK 10 (some 2) (.iface 162 (.agg #[.slice ao n cap])) rfl rfl hS1 (fun w hSw=>by go_simp) ?_;simp only[pS];refine tK 11 (some 3) (.bool false) rfl rfl hS1 (fun w hSw=>by go_simp) ?_;simp only[pS];refine wpAnyH_done (by kernel_rfl) ?_ _
     all_goals
      go_wp2;exact bodyPost_ret (v:=.tuple #[.iface 162 (.agg #[.slice ao n cap]),.bool false]) (by simp[results,Tryz.results115,go_sem,hb]) rfl ⟨rfl,aF hal.drew nl hb1⟩
   ·skip
    rw[show bL 2 n F T G a b=false from by simp[bL,ha]];clear hbt;have hal:=(Below.refl w.heap.size w).alloc nl (.cells #[.int .i64 2,.slice ao n cap,.int .i64 a,.int .i64 b] 78);have hrd:=(hr.below hal nl).below (Below.refl _ (w.alloc (.cells #[.int .i64 2,.slice ao n cap,.int .i64 a,.int .i64 b] 78))).drew nl;have x0:(w.alloc (.cells #[.int .i64 2,.slice ao n cap,.int .i64 a,.int .i64 b] 78)).cell? ⟨w.heap.size,0,none⟩=some (.int .i64 2):=by simp[go_sem]
    have x1:(w.alloc (.cells #[.int .i64 2,.slice ao n cap,.int .i64 a,.int .i64 b] 78)).cell? ⟨w.heap.size,1,none⟩=some (.slice ao n cap):=by simp[go_sem]
    have x2:(w.alloc (.cells #[.int .i64 2,.slice ao n cap,.int .i64 a,.int .i64 b] 78)).cell? ⟨w.heap.size,2,none⟩=some (.int .i64 a):=by simp[go_sem]
    have x3:(w.alloc (.cells #[.int .i64 2,.slice ao n cap,.int .i64 a,.int .i64 b] 78)).cell? ⟨w.heap.size,3,none⟩=some (.int .i64 b):=by simp[go_sem]
    go_enter Tryz.func115,Tryz.ntmps115
    go_wp2_with fail
    refine wp_region_held_drew (S:=fun w'=>w'.cell? ⟨w.heap.size,1,none⟩=some (.slice ao n cap)) (by kernel_rfl) x1 (fun hS=>?_);refine tK 0 (some 30) (.pointer (some ⟨w.heap.size,1,none⟩)) rfl rfl hS (fun w hSw=>by go_simp) ?_;simp only[pS];refine tK 1 (some 31) (.slice ao n cap) rfl rfl hS (fun w hSw=>by go_simp) ?_;simp only[pS];refine tK 2 (some 32) (.agg #[.slice ao n cap]) rfl rfl hS (fun w hSw=>by go_simp) ?_;simp only[pS];refine tK 3 (some 33) (.iface 162 (.agg #[.slice ao n cap])) rfl rfl hS (fun w hSw=>by go_simp) ?_;simp only[pS];refine tK 4 (some 34) (.pointer (some ⟨w.heap.size,1,none⟩)) rfl rfl hS (fun w hSw=>by go_simp) ?_;simp only[pS];refine tK 5 (some 35) (.slice ao n cap) rfl rfl hS (fun w hSw=>by go_simp) ?_;simp only[pS];refine cZ 6 _ rfl (by kernel_rfl) (by rfl) ?_;go_simp;refine (HBA.out _ hrd).mono ?_;rintro e w1 ⟨rfl,hb1⟩;have hS1:=aB hb1 nl x1;refine⟨hS1,?_⟩;refine tK 7 (some 37) (.bool false) rfl rfl hS1 (fun w hSw=>by go_simp) ?_;simp only[pS];refine sK 8 (some 38) rfl rfl hS1 ?_;simp only[pS];refine tK 9 (some 39) (.bool false) rfl rfl hS1 (fun w hSw=>by go_simp) ?_;simp only[pS];refine tK 10 (some 2) (.iface 162 (.agg #[.slice ao n cap])) rfl rfl hS1 (fun w hSw=>by go_simp) ?_;simp only[pS];refine tK 11 (some 3) (.bool false) rfl rfl hS1 (fun w hSw=>by go_simp) ?_;simp only[pS];refine wpAnyH_done (by kernel_rfl) ?_ _
    all_goals
     go_wp2;exact bodyPost_ret (v:=.tuple #[.iface 162 (.agg #[.slice ao n cap]),.bool false]) (by simp[results,Tryz.results115,go_sem,ha]) rfl ⟨rfl,aF hal.drew nl hb1⟩
theorem AX(ao:Option Addr)(n cap:Nat)(F T G:Nat->Int)(a b:Int)(hn:n<=1048576)(w:World)(hr:Row w ao n F T G):
  Calls Tryz.prog 115 #[.agg #[.int .i64 3,.slice ao n cap,.int .i64 a,.int .i64 b]] w fun e w'=>e=.returned (.tuple #[kY 3 ao n cap a b,.bool (bL 3 n F T G a b)])/\Below w.heap.size w w':=by
 ·skip
  have hd:kY 3 ao n cap a b=.iface 165 (.agg #[.int .i64 a,.int .i64 b]):=by simp[kY]
  rw[hd];clear hd
  by_cases hn0:n=0
  ·subst hn0
   rcases bq (dD a 0 23) with hai|hai
   ·have HQa:Hid (∀ W,Calls Tryz.prog 128 #[.int .i64 a,.int .i64 24] W fun e w'=>e=.returned (.bool true)/\w'=W):=fun W=>(eZ a 24 W).mono (fun e w' h'=>⟨by rw[h'.1,show (24:Int)-1=23 from rfl,hai],h'.2⟩)
    rcases bq (dD b 0 23) with hbi|hbi
    ·have HQb:Hid (∀ W,Calls Tryz.prog 128 #[.int .i64 b,.int .i64 24] W fun e w'=>e=.returned (.bool true)/\w'=W):=fun W=>(eZ b 24 W).mono (fun e w' h'=>⟨by rw[h'.1,show (24:Int)-1=23 from rfl,hbi],h'.2⟩)
     by_cases ha:a=0
     ·subst ha
      by_cases hb:b=0
      ·subst hb
       rw[show bL 3 0 F T G 0 0=true from by simp[bL,hai,hbi]];clear hai hbi;have hal:=(Below.refl w.heap.size w).alloc nl (.cells #[.int .i64 3,.slice ao 0 cap,.int .i64 0,.int .i64 0] 78);have hrd:=(hr.below hal nl).below (Below.refl _ (w.alloc (.cells #[.int .i64 3,.slice ao 0 cap,.int .i64 0,.int .i64 0] 78))).drew nl;have x0:(w.alloc (.cells #[.int .i64 3,.slice ao 0 cap,.int .i64 0,.int .i64 0] 78)).cell? ⟨w.heap.size,0,none⟩=some (.int .i64 3):=by simp[go_sem]
       have x1:(w.alloc (.cells #[.int .i64 3,.slice ao 0 cap,.int .i64 0,.int .i64 0] 78)).cell? ⟨w.heap.size,1,none⟩=some (.slice ao 0 cap):=by simp[go_sem]
       have x2:(w.alloc (.cells #[.int .i64 3,.slice ao 0 cap,.int .i64 0,.int .i64 0] 78)).cell? ⟨w.heap.size,2,none⟩=some (.int .i64 0):=by simp[go_sem]
       have x3:(w.alloc (.cells #[.int .i64 3,.slice ao 0 cap,.int .i64 0,.int .i64 0] 78)).cell? ⟨w.heap.size,3,none⟩=some (.int .i64 0):=by simp[go_sem]
       go_enter Tryz.func115,Tryz.ntmps115
       go_wp2_with fail
       go_quiet (first|(go_at_call 128;with_reducible refine Calls.quiet_of_same (HQa.out _))|(go_at_call 128;with_reducible refine Calls.quiet_of_same (HQb.out _)))
       all_goals
        go_wp2;exact bodyPost_ret (v:=.tuple #[.iface 165 (.agg #[.int .i64 0,.int .i64 0]),.bool true]) (by simp[results,Tryz.results115,go_sem]) rfl ⟨rfl,by first|exact below_drewN hal _|exact hal.drew|exact hal⟩
      ·skip
       rw[show bL 3 0 F T G 0 b=true from by simp[bL,hai,hbi]];clear hai hbi;have hal:=(Below.refl w.heap.size w).alloc nl (.cells #[.int .i64 3,.slice ao 0 cap,.int .i64 0,.int .i64 b] 78);have hrd:=(hr.below hal nl).below (Below.refl _ (w.alloc (.cells #[.int .i64 3,.slice ao 0 cap,.int .i64 0,.int .i64 b] 78))).drew nl;have x0:(w.alloc (.cells #[.int .i64 3,.slice ao 0 cap,.int .i64 0,.int .i64 b] 78)).cell? ⟨w.heap.size,0,none⟩=some (.int .i64 3):=by simp[go_sem]
       have x1:(w.alloc (.cells #[.int .i64 3,.slice ao 0 cap,.int .i64 0,.int .i64 b] 78)).cell? ⟨w.heap.size,1,none⟩=some (.slice ao 0 cap):=by simp[go_sem]
       have x2:(w.alloc (.cells #[.int .i64 3,.slice ao 0 cap,.int .i64 0,.int .i64 b] 78)).cell? ⟨w.heap.size,2,none⟩=some (.int .i64 0):=by simp[go_sem]
       have x3:(w.alloc (.cells #[.int .i64 3,.slice ao 0 cap,.int .i64 0,.int .i64 b] 78)).cell? ⟨w.heap.size,3,none⟩=some (.int .i64 b):=by simp[go_sem]
       go_enter Tryz.func115,Tryz.ntmps115
       go_wp2_with fail
       go_quiet (first|(go_at_call 128;with_reducible refine Calls.quiet_of_same (HQa.out _))|(go_at_call 128;with_reducible refine Calls.quiet_of_same (HQb.out _)))
       all_goals
        go_wp2;exact bodyPost_ret (v:=.tuple #[.iface 165 (.agg #[.int .i64 0,.int .i64 b]),.bool true]) (by simp[results,Tryz.results115,go_sem,hb]) rfl ⟨rfl,by first|exact below_drewN hal _|exact hal.drew|exact hal⟩
     ·skip
      rw[show bL 3 0 F T G a b=true from by simp[bL,hai,hbi]];clear hai hbi;have hal:=(Below.refl w.heap.size w).alloc nl (.cells #[.int .i64 3,.slice ao 0 cap,.int .i64 a,.int .i64 b] 78);have hrd:=(hr.below hal nl).below (Below.refl _ (w.alloc (.cells #[.int .i64 3,.slice ao 0 cap,.int .i64 a,.int .i64 b] 78))).drew nl;have x0:(w.alloc (.cells #[.int .i64 3,.slice ao 0 cap,.int .i64 a,.int .i64 b] 78)).cell? ⟨w.heap.size,0,none⟩=some (.int .i64 3):=by simp[go_sem]
      have x1:(w.alloc (.cells #[.int .i64 3,.slice ao 0 cap,.int .i64 a,.int .i64 b] 78)).cell? ⟨w.heap.size,1,none⟩=some (.slice ao 0 cap):=by simp[go_sem]
      have x2:(w.alloc (.cells #[.int .i64 3,.slice ao 0 cap,.int .i64 a,.int .i64 b] 78)).cell? ⟨w.heap.size,2,none⟩=some (.int .i64 a):=by simp[go_sem]
      have x3:(w.alloc (.cells #[.int .i64 3,.slice ao 0 cap,.int .i64 a,.int .i64 b] 78)).cell? ⟨w.heap.size,3,none⟩=some (.int .i64 b):=by simp[go_sem]
      go_enter Tryz.func115,Tryz.ntmps115
      go_wp2_with fail
      go_quiet (first|(go_at_call 128;with_reducible refine Calls.quiet_of_same (HQa.out _))|(go_at_call 128;with_reducible refine Calls.quiet_of_same (HQb.out _)))
      all_goals
       go_wp2;exact bodyPost_ret (v:=.tuple #[.iface 165 (.agg #[.int .i64 a,.int .i64 b]),.bool true]) (by simp[results,Tryz.results115,go_sem,ha]) rfl ⟨rfl,by first|exact below_drewN hal _|exact hal.drew|exact hal⟩
    ·have HQb:Hid (∀ W,Calls Tryz.prog 128 #[.int .i64 b,.int .i64 24] W fun e w'=>e=.returned (.bool false)/\w'=W):=fun W=>(eZ b 24 W).mono (fun e w' h'=>⟨by rw[h'.1,show (24:Int)-1=23 from rfl,hbi],h'.2⟩)
     have hb:¬ b=0:=fun e=>by subst e;simp[dD]at hbi
     by_cases ha:a=0
     ·subst ha
      rw[show bL 3 0 F T G 0 b=false from by simp[bL,hai,hbi]];clear hai hbi;have hal:=(Below.refl w.heap.size w).alloc nl (.cells #[.int .i64 3,.slice ao 0 cap,.int .i64 0,.int .i64 b] 78);have hrd:=(hr.below hal nl).below (Below.refl _ (w.alloc (.cells #[.int .i64 3,.slice ao 0 cap,.int .i64 0,.int .i64 b] 78))).drew nl;have x0:(w.alloc (.cells #[.int .i64 3,.slice ao 0 cap,.int .i64 0,.int .i64 b] 78)).cell? ⟨w.heap.size,0,none⟩=some (.int .i64 3):=by simp[go_sem]
      have x1:(w.alloc (.cells #[.int .i64 3,.slice ao 0 cap,.int .i64 0,.int .i64 b] 78)).cell? ⟨w.heap.size,1,none⟩=some (.slice ao 0 cap):=by simp[go_sem]
      have x2:(w.alloc (.cells #[.int .i64 3,.slice ao 0 cap,.int .i64 0,.int .i64 b] 78)).cell? ⟨w.heap.size,2,none⟩=some (.int .i64 0):=by simp[go_sem]
      have x3:(w.alloc (.cells #[.int .i64 3,.slice ao 0 cap,.int .i64 0,.int .i64 b] 78)).cell? ⟨w.heap.size,3,none⟩=some (.int .i64 b):=by simp[go_sem]
      go_enter Tryz.func115,Tryz.ntmps115
      go_wp2_with fail
      go_quiet (first|(go_at_call 128;with_reducible refine Calls.quiet_of_same (HQa.out _))|(go_at_call 128;with_reducible refine Calls.quiet_of_same (HQb.out _)))
      all_goals
       go_wp2;exact bodyPost_ret (v:=.tuple #[.iface 165 (.agg #[.int .i64 0,.int .i64 b]),.bool false]) (by simp[results,Tryz.results115,go_sem,hb]) rfl ⟨rfl,by first|exact below_drewN hal _|exact hal.drew|exact hal⟩
     ·skip
      rw[show bL 3 0 F T G a b=false from by simp[bL,hai,hbi]];clear hai hbi;have hal:=(Below.refl w.heap.size w).alloc nl (.cells #[.int .i64 3,.slice ao 0 cap,.int .i64 a,.int .i64 b] 78);have hrd:=(hr.below hal nl).below (Below.refl _ (w.alloc (.cells #[.int .i64 3,.slice ao 0 cap,.int .i64 a,.int .i64 b] 78))).drew nl;have x0:(w.alloc (.cells #[.int .i64 3,.slice ao 0 cap,.int .i64 a,.int .i64 b] 78)).cell? ⟨w.heap.size,0,none⟩=some (.int .i64 3):=by simp[go_sem]
      have x1:(w.alloc (.cells #[.int .i64 3,.slice ao 0 cap,.int .i64 a,.int .i64 b] 78)).cell? ⟨w.heap.size,1,none⟩=some (.slice ao 0 cap):=by simp[go_sem]
      have x2:(w.alloc (.cells #[.int .i64 3,.slice ao 0 cap,.int .i64 a,.int .i64 b] 78)).cell? ⟨w.heap.size,2,none⟩=some (.int .i64 a):=by simp[go_sem]
      have x3:(w.alloc (.cells #[.int .i64 3,.slice ao 0 cap,.int .i64 a,.int .i64 b] 78)).cell? ⟨w.heap.size,3,none⟩=some (.int .i64 b):=by simp[go_sem]
      go_enter Tryz.func115,Tryz.ntmps115
      go_wp2_with fail
      go_quiet (first|(go_at_call 128;with_reducible refine Calls.quiet_of_same (HQa.out _))|(go_at_call 128;with_reducible refine Calls.quiet_of_same (HQb.out _)))
      all_goals
       go_wp2;exact bodyPost_ret (v:=.tuple #[.iface 165 (.agg #[.int .i64 a,.int .i64 b]),.bool false]) (by simp[results,Tryz.results115,go_sem,ha]) rfl ⟨rfl,by first|exact below_drewN hal _|exact hal.drew|exact hal⟩
   ·have HQa:Hid (∀ W,Calls Tryz.prog 128 #[.int .i64 a,.int .i64 24] W fun e w'=>e=.returned (.bool false)/\w'=W):=fun W=>(eZ a 24 W).mono (fun e w' h'=>⟨by rw[h'.1,show (24:Int)-1=23 from rfl,hai],h'.2⟩)
    have ha:¬ a=0:=fun e=>by subst e;simp[dD]at hai
    rw[show bL 3 0 F T G a b=false from by simp[bL,hai]];clear hai;have hal:=(Below.refl w.heap.size w).alloc nl (.cells #[.int .i64 3,.slice ao 0 cap,.int .i64 a,.int .i64 b] 78);have hrd:=(hr.below hal nl).below (Below.refl _ (w.alloc (.cells #[.int .i64 3,.slice ao 0 cap,.int .i64 a,.int .i64 b] 78))).drew nl;have x0:(w.alloc (.cells #[.int .i64 3,.slice ao 0 cap,.int .i64 a,.int .i64 b] 78)).cell? ⟨w.heap.size,0,none⟩=some (.int .i64 3):=by simp[go_sem]
    have x1:(w.alloc (.cells #[.int .i64 3,.slice ao 0 cap,.int .i64 a,.int .i64 b] 78)).cell? ⟨w.heap.size,1,none⟩=some (.slice ao 0 cap):=by simp[go_sem]
    have x2:(w.alloc (.cells #[.int .i64 3,.slice ao 0 cap,.int .i64 a,.int .i64 b] 78)).cell? ⟨w.heap.size,2,none⟩=some (.int .i64 a):=by simp[go_sem]
    have x3:(w.alloc (.cells #[.int .i64 3,.slice ao 0 cap,.int .i64 a,.int .i64 b] 78)).cell? ⟨w.heap.size,3,none⟩=some (.int .i64 b):=by simp[go_sem]
    go_enter Tryz.func115,Tryz.ntmps115
    go_wp2_with fail
    go_quiet (first|(go_at_call 128;with_reducible refine Calls.quiet_of_same (HQa.out _)))
    all_goals
     go_wp2;exact bodyPost_ret (v:=.tuple #[.iface 165 (.agg #[.int .i64 a,.int .i64 b]),.bool false]) (by simp[results,Tryz.results115,go_sem,ha]) rfl ⟨rfl,by first|exact below_drewN hal _|exact hal.drew|exact hal⟩
  ·have hn0':¬ (n:Int)=0:=by omega
   by_cases ha:a=0
   ·subst ha
    by_cases hb:b=0
    ·subst hb
     rw[show bL 3 n F T G 0 0=false from by simp[bL,hn0]];have hal:=(Below.refl w.heap.size w).alloc nl (.cells #[.int .i64 3,.slice ao n cap,.int .i64 0,.int .i64 0] 78);have hrd:=(hr.below hal nl).below (Below.refl _ (w.alloc (.cells #[.int .i64 3,.slice ao n cap,.int .i64 0,.int .i64 0] 78))).drew nl;have x0:(w.alloc (.cells #[.int .i64 3,.slice ao n cap,.int .i64 0,.int .i64 0] 78)).cell? ⟨w.heap.size,0,none⟩=some (.int .i64 3):=by simp[go_sem]
     have x1:(w.alloc (.cells #[.int .i64 3,.slice ao n cap,.int .i64 0,.int .i64 0] 78)).cell? ⟨w.heap.size,1,none⟩=some (.slice ao n cap):=by simp[go_sem]
     have x2:(w.alloc (.cells #[.int .i64 3,.slice ao n cap,.int .i64 0,.int .i64 0] 78)).cell? ⟨w.heap.size,2,none⟩=some (.int .i64 0):=by simp[go_sem]
     have x3:(w.alloc (.cells #[.int .i64 3,.slice ao n cap,.int .i64 0,.int .i64 0] 78)).cell? ⟨w.heap.size,3,none⟩=some (.int .i64 0):=by simp[go_sem]
     go_enter Tryz.func115,Tryz.ntmps115
     go_wp2_with fail
     go_quiet (fail)
     all_goals
      go_wp2;exact bodyPost_ret (v:=.tuple #[.iface 165 (.agg #[.int .i64 0,.int .i64 0]),.bool false]) (by simp[results,Tryz.results115,go_sem,hn0,hn0']) rfl ⟨rfl,by first|exact below_drewN hal _|exact hal.drew|exact hal⟩
    ·skip
     rw[show bL 3 n F T G 0 b=false from by simp[bL,hn0]];have hal:=(Below.refl w.heap.size w).alloc nl (.cells #[.int .i64 3,.slice ao n cap,.int .i64 0,.int .i64 b] 78);have hrd:=(hr.below hal nl).below (Below.refl _ (w.alloc (.cells #[.int .i64 3,.slice ao n cap,.int .i64 0,.int .i64 b] 78))).drew nl;have x0:(w.alloc (.cells #[.int .i64 3,.slice ao n cap,.int .i64 0,.int .i64 b] 78)).cell? ⟨w.heap.size,0,none⟩=some (.int .i64 3):=by simp[go_sem]
     have x1:(w.alloc (.cells #[.int .i64 3,.slice ao n cap,.int .i64 0,.int .i64 b] 78)).cell? ⟨w.heap.size,1,none⟩=some (.slice ao n cap):=by simp[go_sem]
     have x2:(w.alloc (.cells #[.int .i64 3,.slice ao n cap,.int .i64 0,.int .i64 b] 78)).cell? ⟨w.heap.size,2,none⟩=some (.int .i64 0):=by simp[go_sem]
     have x3:(w.alloc (.cells #[.int .i64 3,.slice ao n cap,.int .i64 0,.int .i64 b] 78)).cell? ⟨w.heap.size,3,none⟩=some (.int .i64 b):=by simp[go_sem]
     go_enter Tryz.func115,Tryz.ntmps115
     go_wp2_with fail
     go_quiet (fail)
     all_goals
      go_wp2;exact bodyPost_ret (v:=.tuple #[.iface 165 (.agg #[.int .i64 0,.int .i64 b]),.bool false]) (by simp[results,Tryz.results115,go_sem,hn0,hn0',hb]) rfl ⟨rfl,by first|exact below_drewN hal _|exact hal.drew|exact hal⟩
   ·skip
    rw[show bL 3 n F T G a b=false from by simp[bL,hn0]];have hal:=(Below.refl w.heap.size w).alloc nl (.cells #[.int .i64 3,.slice ao n cap,.int .i64 a,.int .i64 b] 78);have hrd:=(hr.below hal nl).below (Below.refl _ (w.alloc (.cells #[.int .i64 3,.slice ao n cap,.int .i64 a,.int .i64 b] 78))).drew nl;have x0:(w.alloc (.cells #[.int .i64 3,.slice ao n cap,.int .i64 a,.int .i64 b] 78)).cell? ⟨w.heap.size,0,none⟩=some (.int .i64 3):=by simp[go_sem]
    have x1:(w.alloc (.cells #[.int .i64 3,.slice ao n cap,.int .i64 a,.int .i64 b] 78)).cell? ⟨w.heap.size,1,none⟩=some (.slice ao n cap):=by simp[go_sem]
    have x2:(w.alloc (.cells #[.int .i64 3,.slice ao n cap,.int .i64 a,.int .i64 b] 78)).cell? ⟨w.heap.size,2,none⟩=some (.int .i64 a):=by simp[go_sem]
    have x3:(w.alloc (.cells #[.int .i64 3,.slice ao n cap,.int .i64 a,.int .i64 b] 78)).cell? ⟨w.heap.size,3,none⟩=some (.int .i64 b):=by simp[go_sem]
    go_enter Tryz.func115,Tryz.ntmps115
    go_wp2_with fail
    go_quiet (fail)
    all_goals
     go_wp2;exact bodyPost_ret (v:=.tuple #[.iface 165 (.agg #[.int .i64 a,.int .i64 b]),.bool false]) (by simp[results,Tryz.results115,go_sem,hn0,hn0',ha]) rfl ⟨rfl,by first|exact below_drewN hal _|exact hal.drew|exact hal⟩
theorem AY(K:Int)(ao:Option Addr)(n cap:Nat)(F T G:Nat->Int)(a b:Int)(hn:n<=1048576)(k1:¬ K=1)(k2:¬ K=2)(k3:¬ K=3)(w:World)(hr:Row w ao n F T G):
  Calls Tryz.prog 115 #[.agg #[.int .i64 K,.slice ao n cap,.int .i64 a,.int .i64 b]] w fun e w'=>e=.returned (.tuple #[kY K ao n cap a b,.bool (bL K n F T G a b)])/\Below w.heap.size w w':=by
 have hd:kY K ao n cap a b=.nilIface:=by simp[kY,k1,k2,k3]
 rw[hd,show bL K n F T G a b=false from by simp[bL,k1,k2,k3]];clear hd
 by_cases ha:a=0
 ·subst ha
  by_cases hb:b=0
  ·subst hb
   go_enter Tryz.func115,Tryz.ntmps115;go_wp2;exact bodyPost_ret (v:=.tuple #[.nilIface,.bool false]) (by simp[results,Tryz.results115,go_sem]) rfl ⟨rfl,(Below.refl _ _).alloc nl _⟩
  ·skip
   go_enter Tryz.func115,Tryz.ntmps115;go_wp2;exact bodyPost_ret (v:=.tuple #[.nilIface,.bool false]) (by simp[results,Tryz.results115,go_sem]) rfl ⟨rfl,(Below.refl _ _).alloc nl _⟩
 ·skip
  go_enter Tryz.func115,Tryz.ntmps115;go_wp2;exact bodyPost_ret (v:=.tuple #[.nilIface,.bool false]) (by simp[results,Tryz.results115,go_sem]) rfl ⟨rfl,(Below.refl _ _).alloc nl _⟩
theorem I9(K:Int)(ao:Option Addr)(n cap:Nat)(F T G:Nat->Int)(a b:Int)(hn:n<=1048576)(w:World)(hr:Row w ao n F T G):
  Calls Tryz.prog 115 #[.agg #[.int .i64 K,.slice ao n cap,.int .i64 a,.int .i64 b]] w fun e w'=>e=.returned (.tuple #[kY K ao n cap a b,.bool (bL K n F T G a b)])/\Below w.heap.size w w':=by
 by_cases k1:K=1
 ·subst k1;exact AV ao n cap F T G a b hn w hr
 by_cases k2:K=2
 ·subst k2;exact AW ao n cap F T G a b hn w hr
 by_cases k3:K=3
 ·subst k3;exact AX ao n cap F T G a b hn w hr
 exact AY K ao n cap F T G a b hn k1 k2 k3 w hr
theorem pP(K:Int)(ao:Option Addr)(n cap:Nat)(F T G:Nat->Int)(a b:Int)(hn:n<=1048576)(w:World)(hr:Row w ao n F T G):
  Calls Tryz.prog 93 #[.agg #[.int .i64 K,.slice ao n cap,.int .i64 a,.int .i64 b]] w fun e w'=>e=.returned (.bool (bL K n F T G a b))/\Below w.heap.size w w':=by
 have hal:=(Below.refl w.heap.size w).alloc nl (.cells #[.int .i64 K,.slice ao n cap,.int .i64 a,.int .i64 b] 78);go_enter Tryz.func93,Tryz.ntmps93
 go_wp2_with fail
 refine (I9 K ao n cap F T G a b hn _ (hr.below hal nl)).mono ?_;rintro e w1 ⟨rfl,hb1⟩;go_wp2;go_ret;exact⟨rfl,aF hal nl hb1⟩
end
section
open Go.RowKit Go.Maps
attribute [local go_sem ↓] Go.wp_at_zero Go.wp_at_succ
theorem AJ{l m:List UInt8}(h:l=m):(l==m)=true:=by simp[h]
theorem AK{l m:List UInt8}(h:l≠m):(l==m)=false:=by simp[h]
def AL(w w':World)(e:Ending)(r:Option (Int × List Int)):Prop:=
 ∃ (K:Int) (ao:Option Addr) (n cap:Nat) (a b:Int),e=.returned (.tuple #[.agg #[.int .i64 K,.slice ao n cap,.int .i64 a,.int .i64 b],.bool r.isSome])/\n<=1000 ∧
  (r.isSome=true->K=P5 r/\n=(oD r).length / 3/\a=qA r 0/\b=qA r 1/\OwnS w' w.heap.size ao n (eH (oD r)))/\Below w.heap.size w w'
theorem rQ{w w':World}{K:Int}{ao:Option Addr}{n cap:Nat}{a b:Int}(hn:n<=1000)(hB:Below w.heap.size w w'):AL w w' (.returned (.tuple #[.agg #[.int .i64 K,.slice ao n cap,.int .i64 a,.int .i64 b],.bool false])) none:=
 ⟨K,ao,n,cap,a,b,rfl,hn,(fun h=>by cases h),hB⟩
theorem Q5{w w':World}(hB:Below w.heap.size w w'):AL w w' (.returned (.tuple #[.agg #[.int .i64 1,.slice none 0 0,.int .i64 0,.int .i64 0],.bool true])) (some (1,[])):=
 ⟨1,none,0,0,0,0,rfl,by omega,fun _=>⟨rfl,by simp[oD],by simp[qA],by simp[qA],cQ _ _ _ _⟩,hB⟩
theorem AM{w w':World}{x y:Int}(hB:Below w.heap.size w w'):AL w w' (.returned (.tuple #[.agg #[.int .i64 3,.slice none 0 0,.int .i64 x,.int .i64 y],.bool true])) (some (3,[x,y])):=
 ⟨3,none,0,0,x,y,rfl,by omega,fun _=>⟨rfl,by simp[oD],by simp[qA],by simp[qA],cQ _ _ _ _⟩,hB⟩
theorem H5{w w':World}{ns:List Int}{ao:Option Addr}{n cap:Nat}(h9:n<=1000)(hn:ns.length / 3=n)(hO:OwnS w' w.heap.size ao n (eH ns))(hB:Below w.heap.size w w'):AL w w' (.returned (.tuple #[.agg #[.int .i64 2,.slice ao n cap,.int .i64 0,.int .i64 0],.bool true])) (some (2,ns)):=
 ⟨2,ao,n,cap,0,0,rfl,h9,fun _=>⟨rfl,by simp[oD,hn],by simp[qA],by simp[qA],by simp[oD];exact hO⟩,hB⟩
theorem uL(nm:ByteArray)(go:Option Addr)(gc B:Nat)(ns:List Int)(h30:ns.length<=30)(w:World)(hO:OwnE w B go ns.length gc (gd ns)):
  Calls Tryz.prog 92 #[.string nm,.slice go ns.length gc] w fun e w'=>AL w w' e (kZ nm.data.toList ns):=by
 have v1:=sP w (.int .i64 0) (.slice none 0 0) (.int .i64 0) (.int .i64 0) 78;have hal:=(Below.refl w.heap.size w).alloc nl (.cells #[.int .i64 0,.slice none 0 0,.int .i64 0,.int .i64 0] 78);have hO1:=hO.next hal;obtain⟨R,hR⟩:∃ R,R=kZ nm.data.toList ns:=⟨_,rfl⟩
 rw[<-hR];rw[<-ByteArray.toList_eq]at hR;have HR:Hid (R=kZ nm.toList ns):=hR;clear hR
 by_cases hno:nm.toList=[110,111,110,101]
 ·have hnb:(nm.toList==[110,111,110,101])=true:=AJ hno
  have HE:Hid (R=if ns.length=0 then some (1,[]) else none):=by
   show _ = _
   rw[HR.out,hno];rfl
  clear HR hno
  by_cases h0:ns.length=0
  ·have h0':(ns.length:Int)=0:=by omega
   have HE2:Hid (R=some (1,[])):=by
    show _ = _
    rw[HE.out,if_pos h0]
   clear HE h0;go_enter Tryz.func92,Tryz.ntmps92;go_wp2;exact bodyPost_ret (v:=.tuple #[.agg #[.int .i64 1,.slice none 0 0,.int .i64 0,.int .i64 0],.bool true]) (by simp[results,Tryz.results92,go_sem]) rfl (by rw[HE2.out];exact Q5 (by first|exact hal|exact (Below.refl w.heap.size w).alloc nl _))
  ·have h0':((ns.length:Int)==0)=false:=by rw[beq_eq_false_iff_ne];omega
   have HE2:Hid (R=none):=by
    show _ = _
    rw[HE.out,if_neg h0]
   clear HE h0;go_enter Tryz.func92,Tryz.ntmps92;go_wp2;exact bodyPost_ret (v:=.tuple #[.agg #[.int .i64 1,.slice none 0 0,.int .i64 0,.int .i64 0],.bool false]) (by simp[results,Tryz.results92,go_sem]) rfl (by rw[HE2.out];exact rQ (by omega) (by first|exact hal|exact (Below.refl w.heap.size w).alloc nl _))
 have hnb:(nm.toList==[110,111,110,101])=false:=AK hno
 by_cases hwe:nm.toList=[119,101,105,103,104]
 ·have hwb:(nm.toList==[119,101,105,103,104])=true:=AJ hwe
  have HE:Hid (R=if ns.length%3=0 then some (2,ns) else none):=by
   show _ = _
   rw[HR.out,hwe];rfl
  clear HR hno hwe;obtain⟨m,hm⟩:∃ m,ns.length / 3=m:=⟨_,rfl⟩
  have HA:Hid (∀ W,OwnE W B go ns.length gc (gd ns)->Calls Tryz.prog 114 #[.slice go ns.length gc] W fun e w'=>e=.returned (.slice (some ⟨W.heap.size,0,none⟩) m m)/\Own w' W.heap.size m (eH ns)/\Below W.heap.size W w'):=fun W h=>D8 go gc B ns ns.length m rfl hm (by omega) W h
  have HM:Hid (ns.length / 3=m):=hm;have hm9:m<=1000:=by omega
  clear hm
  by_cases h0:ns.length%3=0
  ·have h0':(ns.length:Int)%3=0:=by omega
   have HE2:Hid (R=some (2,ns)):=by
    show _ = _
    rw[HE.out,if_pos h0]
   clear HE h0;go_enter Tryz.func92,Tryz.ntmps92
   go_wp2_with fail
   refine (HA.out _ hO1).mono ?_;rintro e w1 ⟨rfl,hown,hb1⟩;replace v1:=v1.next hb1;have hB:=aF hal nl hb1;obtain⟨r0,r1,r2,r3⟩:=v1.c4;have fz:=fun j=>v1.frozen j
   simp only[World.size_alloc]at hown ⊢;clear hb1;go_wp2;obtain⟨q0,q1,q2,q3⟩:=xK v1 (.int .i64 2) (.slice (some ⟨w.heap.size+1,0,none⟩) m m) (.int .i64 0) (.int .i64 0);exact bodyPost_ret (v:=.tuple #[.agg #[.int .i64 2,.slice (some ⟨w.heap.size+1,0,none⟩) m m,.int .i64 0,.int .i64 0],.bool true]) (by simp[results,Tryz.results92,go_sem,q0,q1,q2,q3]) rfl (by rw[HE2.out];exact H5 hm9 HM.out (OwnS.of_st4 (fun k hk=>⟨w.heap.size+1,rfl,by omega,Has.of_own hown⟩) (fun _ a e=>by cases e;simp) _ _ _ _) (bX hB nl _ _ _ _))
  ·have h0':¬ (ns.length:Int)%3=0:=by omega
   have h0b:((ns.length:Int)%3==0)=false:=by simpa using h0'
   have HE2:Hid (R=none):=by
    show _ = _
    rw[HE.out,if_neg h0]
   clear HE h0;go_enter Tryz.func92,Tryz.ntmps92
   go_wp2_with fail
   refine (HA.out _ hO1).mono ?_;rintro e w1 ⟨rfl,hown,hb1⟩;replace v1:=v1.next hb1;have hB:=aF hal nl hb1;obtain⟨r0,r1,r2,r3⟩:=v1.c4;have fz:=fun j=>v1.frozen j
   simp only[World.size_alloc]at hown ⊢;clear hb1;go_wp2;obtain⟨q0,q1,q2,q3⟩:=xK v1 (.int .i64 2) (.slice (some ⟨w.heap.size+1,0,none⟩) m m) (.int .i64 0) (.int .i64 0);exact bodyPost_ret (v:=.tuple #[.agg #[.int .i64 2,.slice (some ⟨w.heap.size+1,0,none⟩) m m,.int .i64 0,.int .i64 0],.bool false]) (by simp[results,Tryz.results92,go_sem,q0,q1,q2,q3]) rfl (by rw[HE2.out];exact rQ hm9 (bX hB nl _ _ _ _))
 have hwb:(nm.toList==[119,101,105,103,104])=false:=AK hwe
 by_cases hask:nm.toList=[97,115,107]
 rotate_left
 ·have hab:(nm.toList==[97,115,107])=false:=AK hask
  have HE2:Hid (R=none):=by
   show _ = _
   rw[HR.out];unfold kZ kN dF iH;rw[if_neg hno,if_neg hwe,if_neg hask]
  clear HR hno hwe hask;go_enter Tryz.func92,Tryz.ntmps92;go_wp2;exact bodyPost_ret (v:=.tuple #[.agg #[.int .i64 0,.slice none 0 0,.int .i64 0,.int .i64 0],.bool false]) (by simp[results,Tryz.results92,go_sem]) rfl (by rw[HE2.out];exact rQ (by omega) (by first|exact hal|exact (Below.refl w.heap.size w).alloc nl _))
 have hab:(nm.toList==[97,115,107])=true:=AJ hask
 have HE:Hid (R=if ns.length=2 then some (3,ns) else none):=by
  show _ = _
  rw[HR.out,hask];rfl
 clear HR hno hwe hask
 by_cases h2:ns.length=2
 rotate_left
 ·have h2':¬ (ns.length:Int)=2:=by omega
  have h2b:((ns.length:Int) != 2)=true:=by simpa using h2'
  have HE2:Hid (R=none):=by
   show _ = _
   rw[HE.out,if_neg h2]
  clear HE h2;go_enter Tryz.func92,Tryz.ntmps92;go_wp2;exact bodyPost_ret (v:=.tuple #[.agg #[.int .i64 0,.slice none 0 0,.int .i64 0,.int .i64 0],.bool false]) (by simp[results,Tryz.results92,go_sem]) rfl (by rw[HE2.out];exact rQ (by omega) (by first|exact hal|exact (Below.refl w.heap.size w).alloc nl _))
 obtain⟨x,y,rfl⟩:∃ x y,ns=[x,y]:=by
  match ns,h2 with
  | [x,y],_=>exact⟨x,y,rfl⟩
 have HE2:Hid (R=some (3,[x,y])):=by
  show _ = _
  rw[HE.out];rfl
 clear HE h2;have hl2:[x,y].length=2:=rfl;rw[hl2]at hO hO1 ⊢;clear hl2;obtain⟨g,rfl,hgB,hI⟩:=hO.has (by omega);have hgl:=hI.lt;have c0:w.cell? ⟨g,0,none⟩=some (.int .i64 x):=hI.cell (j:=0) (by omega);have c1:w.cell? ⟨g,1,none⟩=some (.int .i64 y):=hI.cell (j:=1) (by omega);replace c0:=aB hal nl c0;replace c1:=aB hal nl c1;obtain⟨r0,r1,r2,r3⟩:=v1.c4;have fz:=fun j=>v1.frozen j
 have hne:w.heap.size≠g:=by omega
 go_enter Tryz.func92,Tryz.ntmps92
 go_wp2_with fail
 generalize (w.alloc (.cells #[.int .i64 0,.slice none 0 0,.int .i64 0,.int .i64 0] 78))=W at v1 hal c0 c1 r0 r1 r2 r3 fz hO1 ⊢
 go_region_held3 (fun X=>X.cell? ⟨g,0,none⟩=some (.int .i64 x)/\X.cell? ⟨g,1,none⟩=some (.int .i64 y)) (go_keep) (fail)
 go_wp2;obtain⟨q0,q1,q2,q3⟩:=xK v1 (.int .i64 3) (.slice none 0 0) (.int .i64 x) (.int .i64 y);exact bodyPost_ret (v:=.tuple #[.agg #[.int .i64 3,.slice none 0 0,.int .i64 x,.int .i64 y],.bool true]) (by simp[results,Tryz.results92,go_sem,q0,q1,q2,q3]) rfl (by rw[HE2.out];exact AM (bX hal nl _ _ _ _).drew)
end
section
open Go.ChangeShapes Go.WideShapes Go.ChangeAt Go.RowKit Go.Deep Go.Joins
attribute [local go_sem ↓] Go.wp_at_zero Go.wp_at_succ
theorem eO(K:Int)(ao:Option Addr)(n cap:Nat)(F T G:Nat->Int)(a b:Int)(hn:n<=1048576)(w:World)(hr:Row w ao n F T G):
  Calls Tryz.prog 95 #[.agg #[.int .i64 K,.slice ao n cap,.int .i64 a,.int .i64 b]] w fun e w'=>e=.returned (.bool (bL K n F T G a b))/\Below w.heap.size w w':=by
 by_cases k1:K=1
 ·subst k1
  by_cases hn0:n=0
  ·subst hn0
   by_cases ha:a=0
   ·subst ha
    by_cases hb:b=0
    ·subst hb
     rw[show bL 1 0 F T G 0 0=true from by simp[bL]];go_enter Tryz.func95,Tryz.ntmps95;go_wp2;go_ret;exact⟨by first|rfl|exact dK (by simp[*]),(Below.refl _ _).alloc nl _⟩
    ·skip
     rw[show bL 1 0 F T G 0 b=false from by simp[bL,hb]];go_enter Tryz.func95,Tryz.ntmps95;go_wp2;go_ret;exact⟨by first|rfl|exact dK (by simp[*]),(Below.refl _ _).alloc nl _⟩
   ·skip
    rw[show bL 1 0 F T G a b=false from by simp[bL,ha]];go_enter Tryz.func95,Tryz.ntmps95;go_wp2;go_ret;exact⟨by first|rfl|exact dK (by simp[*]),(Below.refl _ _).alloc nl _⟩
  ·have hn0':¬ (n:Int)=0:=by omega
   rw[show bL 1 n F T G a b=false from by simp[bL,hn0]];go_enter Tryz.func95,Tryz.ntmps95;go_wp2;go_ret;exact⟨by first|rfl|exact dK (by simp[*]),(Below.refl _ _).alloc nl _⟩
 by_cases k3:K=3
 ·subst k3
  by_cases hn0:n=0
  ·subst hn0
   rcases bq (dD a 0 23) with ha|ha
   ·have HQa:Hid (∀ W,Calls Tryz.prog 40 #[.int .i64 a,.int .i64 0,.int .i64 23] W fun e w'=>e=.returned (.bool true)/\w'=W):=fun W=>(cP a 0 23 W).mono (fun e w' h'=>⟨by rw[h'.1,ha],h'.2⟩)
    rcases bq (dD b 0 23) with hb|hb
    ·have HQb:Hid (∀ W,Calls Tryz.prog 40 #[.int .i64 b,.int .i64 0,.int .i64 23] W fun e w'=>e=.returned (.bool true)/\w'=W):=fun W=>(cP b 0 23 W).mono (fun e w' h'=>⟨by rw[h'.1,hb],h'.2⟩)
     rw[show bL 3 0 F T G a b=true from by simp[bL,ha,hb]];go_enter Tryz.func95,Tryz.ntmps95
     go_wp2_with (first|(go_at_call 40;with_reducible refine (HQa.out _).mono ?_;rintro e w1 ⟨rfl,rfl⟩)|(go_at_call 40;with_reducible refine (HQb.out _).mono ?_;rintro e w2 ⟨rfl,rfl⟩))
     go_ret;exact⟨by first|rfl|exact dK (by simp[*]),(Below.refl _ _).alloc nl _⟩
    ·have HQb:Hid (∀ W,Calls Tryz.prog 40 #[.int .i64 b,.int .i64 0,.int .i64 23] W fun e w'=>e=.returned (.bool false)/\w'=W):=fun W=>(cP b 0 23 W).mono (fun e w' h'=>⟨by rw[h'.1,hb],h'.2⟩)
     rw[show bL 3 0 F T G a b=false from by simp[bL,ha,hb]];go_enter Tryz.func95,Tryz.ntmps95
     go_wp2_with (first|(go_at_call 40;with_reducible refine (HQa.out _).mono ?_;rintro e w1 ⟨rfl,rfl⟩)|(go_at_call 40;with_reducible refine (HQb.out _).mono ?_;rintro e w2 ⟨rfl,rfl⟩))
     go_ret;exact⟨by first|rfl|exact dK (by simp[*]),(Below.refl _ _).alloc nl _⟩
   ·have HQa:Hid (∀ W,Calls Tryz.prog 40 #[.int .i64 a,.int .i64 0,.int .i64 23] W fun e w'=>e=.returned (.bool false)/\w'=W):=fun W=>(cP a 0 23 W).mono (fun e w' h'=>⟨by rw[h'.1,ha],h'.2⟩)
    rw[show bL 3 0 F T G a b=false from by simp[bL,ha]];go_enter Tryz.func95,Tryz.ntmps95
    go_wp2_with (first|(go_at_call 40;with_reducible refine (HQa.out _).mono ?_;rintro e w1 ⟨rfl,rfl⟩))
    go_ret;exact⟨by first|rfl|exact dK (by simp[*]),(Below.refl _ _).alloc nl _⟩
  ·have hn0':¬ (n:Int)=0:=by omega
   rw[show bL 3 n F T G a b=false from by simp[bL,hn0]];go_enter Tryz.func95,Tryz.ntmps95;go_wp2;go_ret;exact⟨by first|rfl|exact dK (by simp[*]),(Below.refl _ _).alloc nl _⟩
 by_cases k2:K=2
 rotate_left
 ·skip
  rw[show bL K n F T G a b=false from by simp[bL,k1,k2,k3]];go_enter Tryz.func95,Tryz.ntmps95;go_wp2;go_ret;exact⟨by first|rfl|exact dK (by simp[*]),(Below.refl _ _).alloc nl _⟩
 subst k2
 by_cases h1:n<1
 ·have h1':(n:Int)<1:=by omega
  rw[show bL 2 n F T G a b=false from by simp[bL,fX];omega];go_enter Tryz.func95,Tryz.ntmps95;go_wp2;go_ret;exact⟨by first|rfl|exact dK (by simp[*]),(Below.refl _ _).alloc nl _⟩
 have h1':¬ (n:Int)<1:=by omega
 by_cases h2:10<n
 ·have h2':10<(n:Int):=by omega
  rw[show bL 2 n F T G a b=false from by simp[bL,fX];omega];go_enter Tryz.func95,Tryz.ntmps95;go_wp2;go_ret;exact⟨by first|rfl|exact dK (by simp[*]),(Below.refl _ _).alloc nl _⟩
 have h2':¬ 10<(n:Int):=by omega
 by_cases ha:a=0
 rotate_left
 ·skip
  rw[show bL 2 n F T G a b=false from by simp[bL,ha]];go_enter Tryz.func95,Tryz.ntmps95;go_wp2;go_ret;exact⟨by first|rfl|exact dK (by simp[*]),(Below.refl _ _).alloc nl _⟩
 by_cases hb:b=0
 rotate_left
 ·skip
  rw[show bL 2 n F T G a b=false from by simp[bL,hb]];go_enter Tryz.func95,Tryz.ntmps95;go_wp2;go_ret;exact⟨by first|rfl|exact dK (by simp[*]),(Below.refl _ _).alloc nl _⟩
 subst ha hb
 rw[show bL 2 n F T G 0 0=pV F T G n from by
  have e1:decide (1<=n)=true:=by simp;omega
  have e2:decide (n<=10)=true:=by simp;omega
  have e3:fX F T G n=pV F T G n:=by rw[fX,e1,e2];rfl
  simp[bL,e3]]
 have hal:=(Below.refl w.heap.size w).alloc nl (.cells #[.int .i64 2,.slice ao n cap,.int .i64 0,.int .i64 0] 78);have x1:(w.alloc (.cells #[.int .i64 2,.slice ao n cap,.int .i64 0,.int .i64 0] 78)).cell? ⟨w.heap.size,1,none⟩=some (.slice ao n cap):=by simp[go_sem]
 have hrw:=hr.below hal nl;go_enter Tryz.func95,Tryz.ntmps95;go_wp2;generalize (w.alloc (.cells #[.int .i64 2,.slice ao n cap,.int .i64 0,.int .i64 0] 78))=W at hal x1 hrw ⊢
 go_loopw [3] (fun x wr=>∃ i:Nat,i<=n/\x=.int .i64 i/\pV F T G i=true/\Below W.heap.size W wr) (fun x _=>n-(intOf x).toNat)
 case atStart=>exact⟨0,Nat.zero_le _,rfl,rfl,Below.refl _ _⟩
 case round=>
  obtain⟨i,hi,rfl,hall,hbel⟩:=hrel;have hBw:=aF hal nl hbel;replace x1:=aB hbel nl x1
  by_cases hlt:i<n
  rotate_left
  ·obtain rfl:i=n:=by omega
   go_wp2;go_ret;exact⟨by rw[hall];rfl,hBw⟩
  obtain⟨bb,oo,eo,c0,c1,c2⟩:=(hrw.below hbel nl) i hlt;subst eo;have hlt':(i:Int)<(n:Int):=by omega
  have hi0:(0:Int)<=(i:Int):=by omega
  cases ha:sC (F i) (T i) (G i) 24
  ·have hno:=wU hlt ha
   go_wp2_with fail
   refine (uX (F i) (T i) (G i) 24 (by omega) (by omega) _).mono ?_;rintro e w1 ⟨rfl,hb1⟩;rw[ha];go_wp2;go_ret;exact⟨by rw[hno];rfl,aF hBw nl hb1⟩
  ·go_wp2_with fail
   refine (uX (F i) (T i) (G i) 24 (by omega) (by omega) _).mono ?_;rintro e w1 ⟨rfl,hb1⟩;rw[ha];go_wp2
   go_roundw
   case rel=>exact⟨i+1,by omega,by go_num,by simp[pV,hall,ha],aF hbel nl hb1⟩
   case measure=>simp[intOf];omega
end
section
open Go
theorem vJ{P:Program}{o:Oper}{a:Act}{w:World}{K:Act->World->Prop}{Q:Exit->Act->World->Prop}{v:Value}(h:(execOp a.eval o).run P w=.ok (.value v) w)(hK:K (a.put o.dst v) w):o.wp P a w K Q:=by
 unfold Oper.wp;rw[h];exact hK
theorem sR{P:Program}{o:Oper}{a:Act}{w w':World}{K:Act->World->Prop}{Q:Exit->Act->World->Prop}(h:(execOp a.eval o).run P w=.ok .skip w')(hK:K (a.put o.dst undef) w'):o.wp P a w K Q:=by
 unfold Oper.wp;rw[h];exact hK
theorem sS{P:Program}{o:Oper}{a:Act}{w w':World}{K:Act->World->Prop}{Q:Exit->Act->World->Prop}{v:Value}(h:(execOp a.eval o).run P w=.ok (.value v) w')(hK:K (a.put o.dst v) w'):o.wp P a w K Q:=by
 unfold Oper.wp;rw[h];exact hK
theorem DC{P:Program}{ops:Array Oper}{Q:Exit->Act->World->Prop}{md:Region.Mode}{S:World->Prop}(i j:Nat)(oi oj:Oper){fuel:Nat}{listed:Array Bool}{a:Act}{w:World}(hi:ops[i]?=some oi)(hj:ops[j]?=some oj)(hr:Region.ready md ops listed=[i,j])
  (hwi:Region.wanted oi (yielded ops a.tmps)=true) (hwj:Region.wanted oj (yielded ops a.tmps)=true)
  (h1:Oper.wp P oi a w (fun a' w'=>S w'/\wpAnyH P md ops Q S fuel (listed.setIfInBounds i true) a' w') Q) (h2:Oper.wp P oj a w (fun a' w'=>S w'/\wpAnyH P md ops Q S fuel (listed.setIfInBounds j true) a' w') Q):wpAnyH P md ops Q S (fuel+1) listed a w:=
 wpAnyH_ready hr (by simp) (AllReadyH.cons hi (fun K hK=>by rw[if_pos hwi];exact Oper.wp_mono (fun a' w' h'=>hK.out _ _ h'.1 (fun _=>h'.2)) h1) (AllReadyH.cons hj (fun K hK=>by rw[if_pos hwj];exact Oper.wp_mono (fun a' w' h'=>hK.out _ _ h'.1 (fun _=>h'.2)) h2) AllReadyH.nil))
end
end Go.Proofs.YtbabakgjkloabaaGreatDoor
