/-
  Helpers: LogP, Gard, NdA, LogU, NdP, EntO, MrgG, CloN, CloI.
-/
import Derived.Test.YtbabakgjkloabaaGreatDoorPack1
import Derived.Test.YtbabakgjkloabaaGreatDoorPack2
import Derived.Test.YtbabakgjkloabaaGreatDoorPack6
import Derived.Test.YtbabakgjkloabaaGreatDoorPack3
import Derived.Deep.AppendLies
import Derived.Laws.OwnMore
import Derived.Lib.AppendZeros
set_option linter.unusedVariables false
set_option linter.unusedSimpArgs false
namespace Go.Proofs.YtbabakgjkloabaaGreatDoor
section
open Go.RowKit
attribute [local go_sem ↓] Go.wp_at_zero Go.wp_at_succ
def isC (x:ByteArray):Bool:=(onlyOk (rdS x.data.toList)).isSome
def logAt (T:Nat->Int) (X:Nat->ByteArray) (k:Nat):Bool:=isC (X k)&&(decide (1<=T k)&&(decide (T k<=100000)&&decide (k=0\/T (k-1)<=T k)))
def logB (n:Nat) (T:Nat->Int) (X:Nat->ByteArray):Bool:=decide (n<=200)&&(List.range n).all (logAt T X)
theorem logB_true {n:Nat} {T:Nat->Int} {X:Nat->ByteArray} (h:n<=200) (ha:∀ k,k<n->logAt T X k=true):logB n T X=true:=by
 unfold logB;simp only[h,decide_true,Bool.true_and,List.all_eq_true,List.mem_range];exact ha
theorem logB_long {n:Nat} {T:Nat->Int} {X:Nat->ByteArray} (h:200<n):logB n T X=false:=by
 unfold logB;rw[decide_eq_false (by omega),Bool.false_and]
theorem logB_bad {n:Nat} {T:Nat->Int} {X:Nat->ByteArray} {k:Nat} (hk:k<n) (ha:logAt T X k=false):logB n T X=false:=by
 unfold logB;rw[Bool.and_eq_false_iff]
 right
 rw[List.all_eq_false];exact⟨k,List.mem_range.2 hk,by rw[ha];simp⟩
theorem logB_at {n:Nat} {T:Nat->Int} {X:Nat->ByteArray} (h:logB n T X=true):n<=200/\∀ k,k<n->logAt T X k=true:=by
 unfold logB at h;rw[Bool.and_eq_true,List.all_eq_true]at h;exact⟨of_decide_eq_true h.1,fun k hk=>h.2 k (List.mem_range.2 hk)⟩
theorem logAt_mk {T:Nat->Int} {X:Nat->ByteArray} {k:Nat} (h1:isC (X k)=true) (h2:1<=T k) (h3:T k<=100000) (h4:k=0\/T (k-1)<=T k):logAt T X k=true:=by
 unfold logAt;rw[h1,decide_eq_true h2,decide_eq_true h3,decide_eq_true h4];rfl
theorem logAt_out {T:Nat->Int} {X:Nat->ByteArray} {k:Nat} (h:logAt T X k=true):isC (X k)=true/\1<=T k/\T k<=100000/\(k=0\/T (k-1)<=T k):=by
 unfold logAt at h;rw[Bool.and_eq_true,Bool.and_eq_true,Bool.and_eq_true]at h;exact⟨h.1,of_decide_eq_true h.2.1,of_decide_eq_true h.2.2.1,of_decide_eq_true h.2.2.2⟩
theorem logAt_not {T:Nat->Int} {X:Nat->ByteArray} {k:Nat} (h:¬ (isC (X k)=true/\1<=T k/\T k<=100000/\(k=0\/T (k-1)<=T k))):logAt T X k=false:=by
 cases e:logAt T X k
 ·rfl
 ·exact absurd (logAt_out e) h
theorem l10Entry_any (t:Int) (x:ByteArray) (hx:x.size<=1048576) (w:World):
  Calls Tryz.prog 84 #[.agg #[.int .i64 t,.string x]] w fun e w'=>e=.returned (.bool (isC x&&inB t 1 100000))/\Below w.heap.size w w':=by
 have hR:=fun W=>specRead_any x hx W
 unfold isC;generalize onlyOk (rdS x.data.toList)=R at hR ⊢;have HR:Hid (∀ W,Calls Tryz.prog 61 #[.string x] W fun e w'=>CAns W w' e R):=hR;clear hR;go_enter Tryz.func84,Tryz.ntmps84
 go_wp2_with fail
 refine (HR.out _).mono ?_;rintro e w1 ⟨ao,cap,rfl,_,hb⟩;have c0:w1.cell? ⟨w.heap.size,0,none⟩=some (.int .i64 t):=by rw[hb.cell (by simp)];simp[go_sem]
 have hA:Below w.heap.size w w1:=((Below.refl _ _).alloc nl _).trans (hb.mono (by simp));clear hb;have hA2:=fun o=>hA.alloc hA.size o
 have c0':∀ o,(w1.alloc o).cell? ⟨w.heap.size,0,none⟩=some (.int .i64 t):=fun o=>by rw[((Below.refl w1.heap.size w1).alloc nl o).cell (lt_of_cell c0)];exact c0
 clear c0;cases hb2:R.isSome
 ·go_wp2
  go_ret;exact⟨by rw[hb2];simp,hA2 _⟩
 ·go_wp2_with (go_at_call 40;refine (l1In_any _ _ _ _).mono ?_;rintro e w2 ⟨rfl,hq⟩;have hq':=hq.symm;subst hq';clear hq)
  go_ret;exact⟨by rw[hb2];simp,hA2 _⟩
set_option maxHeartbeats 1000000 in
theorem specLogOk_any (ao:Option Addr) (n cap:Nat) (T:Nat->Int) (X:Nat->ByteArray) (hn:n<=9223372036854775807) (hX:∀ k,k<n->(X k).size<=1048576) (w:World) (hr:NRow w ao n T X):
  Calls Tryz.prog 42 #[.slice ao n cap] w fun e w'=>e=.returned (.bool (logB n T X))/\Below w.heap.size w w':=by
 by_cases h200:200<n
 ·rw[logB_long h200]
  have h2':(200:Int)<(n:Int):=by omega
  go_enter Tryz.func42,Tryz.ntmps42;go_wp2;go_ret;exact⟨rfl,Below.refl _ _⟩
 have h2':¬ (200:Int)<(n:Int):=by omega
 have HB:Hid ((∀ k,k<n->logAt T X k=true)->logB n T X=true):=fun h=>logB_true (by omega) h
 have HN:Hid (∀ k,k<n->logAt T X k=false->logB n T X=false):=fun k h1 h2=>logB_bad h1 h2
 generalize logB n T X=B at HB HN ⊢;go_enter Tryz.func42,Tryz.ntmps42;go_wp2
 go_loopw [3] (fun i wr=>∃ k:Nat,k<=n/\i=.int .i64 k/\(∀ j,j<k->logAt T X j=true)/\Below w.heap.size w wr) (fun i _=>n-(intOf i).toNat)
 case atStart=>exact⟨0,Nat.zero_le _,rfl,fun j hj=>by omega,Below.refl _ _⟩
 case round=>
  obtain⟨k,hk,rfl,hat,hbel⟩:=hrel
  by_cases hlt:k<n
  rotate_left
  ·have hkn:k=n:=by omega
   subst hkn;go_wp2;go_ret;exact⟨by rw[HB.out hat];rfl,hbel⟩
  obtain⟨b,o,hao,c0,c1⟩:=(hr.below hbel nl) k hlt;subst hao;have hk1:(0:Int)<=(k:Int):=by omega
  have hk2:(k:Int)<(n:Int):=by omega
  -- ROUND
  have hEn:=fun W=>l10Entry_any (T k) (X k) (hX k hlt) W
  obtain⟨g,hg⟩:∃ g,(isC (X k)&&inB (T k) 1 100000)=g:=⟨_,rfl⟩
  rw[hg]at hEn;cases g
  ·have HE:∀ W,Calls Tryz.prog 84 #[.agg #[.int .i64 (T k),.string (X k)]] W fun e w'=>e=.returned (.bool false)/\Below W.heap.size W w':=hEn
   have hno:logAt T X k=false:=logAt_not (fun h=>by simp[inB,h.1,h.2.1,h.2.2.1]at hg);clear hEn hg
   go_wp2_with fail
   have hS:(fun w'=>w'.cell? ⟨b,o+k*2,none⟩=some (.int .i64 (T k))/\w'.cell? ⟨b,o+k*2+1,none⟩=some (.string (X k))) wr.drew:=⟨c0,c1⟩
   refine wp_region_held_drew (S:=fun w'=>w'.cell? ⟨b,o+k*2,none⟩=some (.int .i64 (T k))/\w'.cell? ⟨b,o+k*2+1,none⟩=some (.string (X k))) (by kernel_rfl) hS (fun hS=>?_);refine tK 0 (some 13) (.slice (some ⟨b,o,none⟩) n cap) rfl rfl hS (fun w hSw=>by go_split_ands;go_simp<;>first|omega|(rw[IntKind.wrap_i64];omega)|(intro h;exfalso;omega)) ?_;simp only[pS];refine tK 1 (some 14) (.int .i64 (k:Int)) rfl rfl hS (fun w hSw=>by go_split_ands;go_simp<;>first|omega|(rw[IntKind.wrap_i64];omega)|(intro h;exfalso;omega)) ?_;simp only[pS];refine tK 2 (some 15) (.pointer (some ⟨b,o+k*2,none⟩)) rfl rfl hS (fun w hSw=>by go_split_ands;go_simp<;>first|omega|(rw[IntKind.wrap_i64];omega)|(intro h;exfalso;omega)) ?_;simp only[pS];refine tK 3 (some 16) (.agg #[.int .i64 (T k),.string (X k)]) rfl rfl hS (fun w hSw=>by go_split_ands;go_simp<;>first|omega|(rw[IntKind.wrap_i64];omega)|(intro h;exfalso;omega)) ?_;simp only[pS];refine step1H 4 _ rfl (by kernel_rfl) (by rfl) ?_;go_simp;refine (HE _).mono ?_;rintro e w1 ⟨rfl,hb1⟩;have hS1:(fun w'=>w'.cell? ⟨b,o+k*2,none⟩=some (.int .i64 (T k))/\w'.cell? ⟨b,o+k*2+1,none⟩=some (.string (X k))) w1:=⟨keep_cell hb1 nl hS.1,keep_cell hb1 nl hS.2⟩
   refine⟨hS1,?_⟩;refine tK 5 (some 18) (.bool true) rfl rfl hS1 (fun w hSw=>by go_split_ands;go_simp<;>first|omega|(rw[IntKind.wrap_i64];omega)|(intro h;exfalso;omega)) ?_;simp only[pS];refine tK 6 (some 19) (.bool true) rfl rfl hS1 (fun w hSw=>by go_split_ands;go_simp<;>first|omega|(rw[IntKind.wrap_i64];omega)|(intro h;exfalso;omega)) ?_;simp only[pS];refine sK 7 (some 20) rfl rfl hS1 ?_;simp only[pS];refine sK 8 (some 21) rfl rfl hS1 ?_;simp only[pS];refine sK 9 (some 22) rfl rfl hS1 ?_;simp only[pS];refine sK 10 (some 23) rfl rfl hS1 ?_;simp only[pS];refine sK 11 (some 24) rfl rfl hS1 ?_;simp only[pS];refine sK 12 (some 25) rfl rfl hS1 ?_;simp only[pS];refine sK 13 (some 26) rfl rfl hS1 ?_;simp only[pS];refine sK 14 (some 27) rfl rfl hS1 ?_;simp only[pS];refine sK 15 (some 28) rfl rfl hS1 ?_;simp only[pS];refine sK 16 (some 29) rfl rfl hS1 ?_;simp only[pS];refine sK 17 (some 30) rfl rfl hS1 ?_;simp only[pS];refine sK 18 (some 31) rfl rfl hS1 ?_;simp only[pS];refine sK 19 (some 32) rfl rfl hS1 ?_;simp only[pS];refine sK 20 (some 33) rfl rfl hS1 ?_;simp only[pS];refine sK 21 (some 34) rfl rfl hS1 ?_;simp only[pS];refine sK 22 (some 35) rfl rfl hS1 ?_;simp only[pS];refine tK 23 (some 36) (.bool true) rfl rfl hS1 (fun w hSw=>by go_split_ands;go_simp<;>first|omega|(rw[IntKind.wrap_i64];omega)|(intro h;exfalso;omega)) ?_;simp only[pS];refine wpAnyH_done (by kernel_rfl) ?_ _;go_wp2;go_ret;exact⟨by rw[HN.out k hlt hno];rfl,below_next hbel.drew nl hb1⟩
  have HE:∀ W,Calls Tryz.prog 84 #[.agg #[.int .i64 (T k),.string (X k)]] W fun e w'=>e=.returned (.bool true)/\Below W.heap.size W w':=hEn
  have hyes:isC (X k)=true/\1<=T k/\T k<=100000:=by
   simp only[inB,Bool.and_eq_true,decide_eq_true_eq]at hg;exact⟨hg.1,hg.2.1,hg.2.2⟩
  clear hEn hg
  by_cases h0:k=0
  ·have hyes':logAt T X k=true:=logAt_mk hyes.1 hyes.2.1 hyes.2.2 (Or.inl h0)
   have hk3:¬ (0:Int)<(k:Int):=by omega
   clear h0
   go_wp2_with fail
   have hS:(fun w'=>w'.cell? ⟨b,o+k*2,none⟩=some (.int .i64 (T k))/\w'.cell? ⟨b,o+k*2+1,none⟩=some (.string (X k))) wr.drew:=⟨c0,c1⟩
   refine wp_region_held_drew (S:=fun w'=>w'.cell? ⟨b,o+k*2,none⟩=some (.int .i64 (T k))/\w'.cell? ⟨b,o+k*2+1,none⟩=some (.string (X k))) (by kernel_rfl) hS (fun hS=>?_);refine tK 0 (some 13) (.slice (some ⟨b,o,none⟩) n cap) rfl rfl hS (fun w hSw=>by go_split_ands;go_simp<;>first|omega|(rw[IntKind.wrap_i64];omega)|(intro h;exfalso;omega)) ?_;simp only[pS];refine tK 1 (some 14) (.int .i64 (k:Int)) rfl rfl hS (fun w hSw=>by go_split_ands;go_simp<;>first|omega|(rw[IntKind.wrap_i64];omega)|(intro h;exfalso;omega)) ?_;simp only[pS];refine tK 2 (some 15) (.pointer (some ⟨b,o+k*2,none⟩)) rfl rfl hS (fun w hSw=>by go_split_ands;go_simp<;>first|omega|(rw[IntKind.wrap_i64];omega)|(intro h;exfalso;omega)) ?_;simp only[pS];refine tK 3 (some 16) (.agg #[.int .i64 (T k),.string (X k)]) rfl rfl hS (fun w hSw=>by go_split_ands;go_simp<;>first|omega|(rw[IntKind.wrap_i64];omega)|(intro h;exfalso;omega)) ?_;simp only[pS];refine step1H 4 _ rfl (by kernel_rfl) (by rfl) ?_;go_simp;refine (HE _).mono ?_;rintro e w1 ⟨rfl,hb1⟩;have hS1:(fun w'=>w'.cell? ⟨b,o+k*2,none⟩=some (.int .i64 (T k))/\w'.cell? ⟨b,o+k*2+1,none⟩=some (.string (X k))) w1:=⟨keep_cell hb1 nl hS.1,keep_cell hb1 nl hS.2⟩
   refine⟨hS1,?_⟩;refine tK 5 (some 18) (.bool false) rfl rfl hS1 (fun w hSw=>by go_split_ands;go_simp<;>first|omega|(rw[IntKind.wrap_i64];omega)|(intro h;exfalso;omega)) ?_;simp only[pS];refine tK 6 (some 19) (.bool false) rfl rfl hS1 (fun w hSw=>by go_split_ands;go_simp<;>first|omega|(rw[IntKind.wrap_i64];omega)|(intro h;exfalso;omega)) ?_;simp only[pS];refine tK 7 (some 20) (.int .i64 (k:Int)) rfl rfl hS1 (fun w hSw=>by go_split_ands;go_simp<;>first|omega|(rw[IntKind.wrap_i64];omega)|(intro h;exfalso;omega)) ?_;simp only[pS];refine tK 8 (some 21) (.bool false) rfl rfl hS1 (fun w hSw=>by go_split_ands;go_simp<;>first|omega|(rw[IntKind.wrap_i64];omega)|(intro h;exfalso;omega)) ?_;simp only[pS];refine tK 9 (some 22) (.bool false) rfl rfl hS1 (fun w hSw=>by go_split_ands;go_simp<;>first|omega|(rw[IntKind.wrap_i64];omega)|(intro h;exfalso;omega)) ?_;simp only[pS];refine sK 10 (some 23) rfl rfl hS1 ?_;simp only[pS];refine sK 11 (some 24) rfl rfl hS1 ?_;simp only[pS];refine sK 12 (some 25) rfl rfl hS1 ?_;simp only[pS];refine sK 13 (some 26) rfl rfl hS1 ?_;simp only[pS];refine sK 14 (some 27) rfl rfl hS1 ?_;simp only[pS];refine sK 15 (some 28) rfl rfl hS1 ?_;simp only[pS];refine sK 16 (some 29) rfl rfl hS1 ?_;simp only[pS];refine sK 17 (some 30) rfl rfl hS1 ?_;simp only[pS];refine sK 18 (some 31) rfl rfl hS1 ?_;simp only[pS];refine sK 19 (some 32) rfl rfl hS1 ?_;simp only[pS];refine sK 20 (some 33) rfl rfl hS1 ?_;simp only[pS];refine sK 21 (some 34) rfl rfl hS1 ?_;simp only[pS];refine tK 22 (some 35) (.bool false) rfl rfl hS1 (fun w hSw=>by go_split_ands;go_simp<;>first|omega|(rw[IntKind.wrap_i64];omega)|(intro h;exfalso;omega)) ?_;simp only[pS];refine tK 23 (some 36) (.bool false) rfl rfl hS1 (fun w hSw=>by go_split_ands;go_simp<;>first|omega|(rw[IntKind.wrap_i64];omega)|(intro h;exfalso;omega)) ?_;simp only[pS];refine wpAnyH_done (by kernel_rfl) ?_ _;go_wp2
   go_roundw
   case rel=>
    refine⟨k+1,by omega,by go_num,fun j hj=>?_,below_next hbel.drew nl hb1⟩
    by_cases e:j=k
    ·subst e;exact hyes'
    ·exact hat j (by omega)
   case measure=>simp[intOf];omega
  have hk3:(0:Int)<(k:Int):=by omega
  have hk4:(0:Int)<=(k:Int)-1:=by omega
  have hk5:(k:Int)-1<(n:Int):=by omega
  have hk6:((k:Int)-1).toNat=k-1:=by omega
  obtain⟨b',o',hao',d0,d1⟩:=(hr.below hbel nl) (k-1) (by omega);simp only[Option.some.injEq,Addr.mk.injEq,and_true]at hao';obtain⟨rfl,rfl⟩:=hao'
  by_cases hT:T k<T (k-1)
  ·have hno:logAt T X k=false:=logAt_not (fun h=>by omega)
   go_wp2_with fail
   have hS:(fun w'=>w'.cell? ⟨b,o+k*2,none⟩=some (.int .i64 (T k))/\w'.cell? ⟨b,o+k*2+1,none⟩=some (.string (X k))/\w'.cell? ⟨b,o+(k-1)*2,none⟩=some (.int .i64 (T (k-1)))) wr.drew:=⟨c0,c1,d0⟩
   refine wp_region_held_drew (S:=fun w'=>w'.cell? ⟨b,o+k*2,none⟩=some (.int .i64 (T k))/\w'.cell? ⟨b,o+k*2+1,none⟩=some (.string (X k))/\w'.cell? ⟨b,o+(k-1)*2,none⟩=some (.int .i64 (T (k-1)))) (by kernel_rfl) hS (fun hS=>?_);refine tK 0 (some 13) (.slice (some ⟨b,o,none⟩) n cap) rfl rfl hS (fun w hSw=>by go_split_ands;go_simp<;>first|omega|(rw[IntKind.wrap_i64];omega)|(intro h;exfalso;omega)) ?_;simp only[pS];refine tK 1 (some 14) (.int .i64 (k:Int)) rfl rfl hS (fun w hSw=>by go_split_ands;go_simp<;>first|omega|(rw[IntKind.wrap_i64];omega)|(intro h;exfalso;omega)) ?_;simp only[pS];refine tK 2 (some 15) (.pointer (some ⟨b,o+k*2,none⟩)) rfl rfl hS (fun w hSw=>by go_split_ands;go_simp<;>first|omega|(rw[IntKind.wrap_i64];omega)|(intro h;exfalso;omega)) ?_;simp only[pS];refine tK 3 (some 16) (.agg #[.int .i64 (T k),.string (X k)]) rfl rfl hS (fun w hSw=>by go_split_ands;go_simp<;>first|omega|(rw[IntKind.wrap_i64];omega)|(intro h;exfalso;omega)) ?_;simp only[pS];refine step1H 4 _ rfl (by kernel_rfl) (by rfl) ?_;go_simp;refine (HE _).mono ?_;rintro e w1 ⟨rfl,hb1⟩;have hS1:(fun w'=>w'.cell? ⟨b,o+k*2,none⟩=some (.int .i64 (T k))/\w'.cell? ⟨b,o+k*2+1,none⟩=some (.string (X k))/\w'.cell? ⟨b,o+(k-1)*2,none⟩=some (.int .i64 (T (k-1)))) w1:=⟨keep_cell hb1 nl hS.1,keep_cell hb1 nl hS.2.1,keep_cell hb1 nl hS.2.2⟩
   refine⟨hS1,?_⟩;refine tK 5 (some 18) (.bool false) rfl rfl hS1 (fun w hSw=>by go_split_ands;go_simp<;>first|omega|(rw[IntKind.wrap_i64];omega)|(intro h;exfalso;omega)) ?_;simp only[pS];refine tK 6 (some 19) (.bool false) rfl rfl hS1 (fun w hSw=>by go_split_ands;go_simp<;>first|omega|(rw[IntKind.wrap_i64];omega)|(intro h;exfalso;omega)) ?_;simp only[pS];refine tK 7 (some 20) (.int .i64 (k:Int)) rfl rfl hS1 (fun w hSw=>by go_split_ands;go_simp<;>first|omega|(rw[IntKind.wrap_i64];omega)|(intro h;exfalso;omega)) ?_;simp only[pS];refine tK 8 (some 21) (.bool true) rfl rfl hS1 (fun w hSw=>by go_split_ands;go_simp<;>first|omega|(rw[IntKind.wrap_i64];omega)|(intro h;exfalso;omega)) ?_;simp only[pS];refine tK 9 (some 22) (.bool true) rfl rfl hS1 (fun w hSw=>by go_split_ands;go_simp<;>first|omega|(rw[IntKind.wrap_i64];omega)|(intro h;exfalso;omega)) ?_;simp only[pS];refine tK 10 (some 23) (.slice (some ⟨b,o,none⟩) n cap) rfl rfl hS1 (fun w hSw=>by go_split_ands;go_simp<;>first|omega|(rw[IntKind.wrap_i64];omega)|(intro h;exfalso;omega)) ?_;simp only[pS];refine tK 11 (some 24) (.int .i64 (k:Int)) rfl rfl hS1 (fun w hSw=>by go_split_ands;go_simp<;>first|omega|(rw[IntKind.wrap_i64];omega)|(intro h;exfalso;omega)) ?_;simp only[pS];refine tK 12 (some 25) (.pointer (some ⟨b,o+k*2,none⟩)) rfl rfl hS1 (fun w hSw=>by go_split_ands;go_simp<;>first|omega|(rw[IntKind.wrap_i64];omega)|(intro h;exfalso;omega)) ?_;simp only[pS];refine tK 13 (some 26) (.pointer (some ⟨b,o+k*2,none⟩)) rfl rfl hS1 (fun w hSw=>by go_split_ands;go_simp<;>first|omega|(rw[IntKind.wrap_i64];omega)|(intro h;exfalso;omega)) ?_;simp only[pS];refine tK 14 (some 27) (.int .i64 (T k)) rfl rfl hS1 (fun w hSw=>by go_split_ands;go_simp<;>first|omega|(rw[IntKind.wrap_i64];omega)|(intro h;exfalso;omega)) ?_;simp only[pS];refine tK 15 (some 28) (.slice (some ⟨b,o,none⟩) n cap) rfl rfl hS1 (fun w hSw=>by go_split_ands;go_simp<;>first|omega|(rw[IntKind.wrap_i64];omega)|(intro h;exfalso;omega)) ?_;simp only[pS];refine tK 16 (some 29) (.int .i64 (k:Int)) rfl rfl hS1 (fun w hSw=>by go_split_ands;go_simp<;>first|omega|(rw[IntKind.wrap_i64];omega)|(intro h;exfalso;omega)) ?_;simp only[pS];refine tK 17 (some 30) (.int .i64 ((k:Int)-1)) rfl rfl hS1 (fun w hSw=>by go_split_ands;go_simp<;>first|omega|(rw[IntKind.wrap_i64];omega)|(intro h;exfalso;omega)) ?_;simp only[pS];refine tK 18 (some 31) (.pointer (some ⟨b,o+(k-1)*2,none⟩)) rfl rfl hS1 (fun w hSw=>by go_split_ands;go_simp<;>first|omega|(rw[IntKind.wrap_i64];omega)|(intro h;exfalso;omega)) ?_;simp only[pS];refine tK 19 (some 32) (.pointer (some ⟨b,o+(k-1)*2,none⟩)) rfl rfl hS1 (fun w hSw=>by go_split_ands;go_simp<;>first|omega|(rw[IntKind.wrap_i64];omega)|(intro h;exfalso;omega)) ?_;simp only[pS];refine tK 20 (some 33) (.int .i64 (T (k-1))) rfl rfl hS1 (fun w hSw=>by go_split_ands;go_simp<;>first|omega|(rw[IntKind.wrap_i64];omega)|(intro h;exfalso;omega)) ?_;simp only[pS];refine tK 21 (some 34) (.bool true) rfl rfl hS1 (fun w hSw=>by go_split_ands;go_simp<;>first|omega|(rw[IntKind.wrap_i64];omega)|(intro h;exfalso;omega)) ?_;simp only[pS];refine tK 22 (some 35) (.bool true) rfl rfl hS1 (fun w hSw=>by go_split_ands;go_simp<;>first|omega|(rw[IntKind.wrap_i64];omega)|(intro h;exfalso;omega)) ?_;simp only[pS];refine tK 23 (some 36) (.bool true) rfl rfl hS1 (fun w hSw=>by go_split_ands;go_simp<;>first|omega|(rw[IntKind.wrap_i64];omega)|(intro h;exfalso;omega)) ?_;simp only[pS];refine wpAnyH_done (by kernel_rfl) ?_ _;go_wp2;go_ret;exact⟨by rw[HN.out k hlt hno];rfl,below_next hbel.drew nl hb1⟩
  ·have hyes':logAt T X k=true:=logAt_mk hyes.1 hyes.2.1 hyes.2.2 (Or.inr (by omega))
   go_wp2_with fail
   have hS:(fun w'=>w'.cell? ⟨b,o+k*2,none⟩=some (.int .i64 (T k))/\w'.cell? ⟨b,o+k*2+1,none⟩=some (.string (X k))/\w'.cell? ⟨b,o+(k-1)*2,none⟩=some (.int .i64 (T (k-1)))) wr.drew:=⟨c0,c1,d0⟩
   refine wp_region_held_drew (S:=fun w'=>w'.cell? ⟨b,o+k*2,none⟩=some (.int .i64 (T k))/\w'.cell? ⟨b,o+k*2+1,none⟩=some (.string (X k))/\w'.cell? ⟨b,o+(k-1)*2,none⟩=some (.int .i64 (T (k-1)))) (by kernel_rfl) hS (fun hS=>?_);refine tK 0 (some 13) (.slice (some ⟨b,o,none⟩) n cap) rfl rfl hS (fun w hSw=>by go_split_ands;go_simp<;>first|omega|(rw[IntKind.wrap_i64];omega)|(intro h;exfalso;omega)) ?_;simp only[pS];refine tK 1 (some 14) (.int .i64 (k:Int)) rfl rfl hS (fun w hSw=>by go_split_ands;go_simp<;>first|omega|(rw[IntKind.wrap_i64];omega)|(intro h;exfalso;omega)) ?_;simp only[pS];refine tK 2 (some 15) (.pointer (some ⟨b,o+k*2,none⟩)) rfl rfl hS (fun w hSw=>by go_split_ands;go_simp<;>first|omega|(rw[IntKind.wrap_i64];omega)|(intro h;exfalso;omega)) ?_;simp only[pS];refine tK 3 (some 16) (.agg #[.int .i64 (T k),.string (X k)]) rfl rfl hS (fun w hSw=>by go_split_ands;go_simp<;>first|omega|(rw[IntKind.wrap_i64];omega)|(intro h;exfalso;omega)) ?_;simp only[pS];refine step1H 4 _ rfl (by kernel_rfl) (by rfl) ?_;go_simp;refine (HE _).mono ?_;rintro e w1 ⟨rfl,hb1⟩;have hS1:(fun w'=>w'.cell? ⟨b,o+k*2,none⟩=some (.int .i64 (T k))/\w'.cell? ⟨b,o+k*2+1,none⟩=some (.string (X k))/\w'.cell? ⟨b,o+(k-1)*2,none⟩=some (.int .i64 (T (k-1)))) w1:=⟨keep_cell hb1 nl hS.1,keep_cell hb1 nl hS.2.1,keep_cell hb1 nl hS.2.2⟩
   refine⟨hS1,?_⟩;refine tK 5 (some 18) (.bool false) rfl rfl hS1 (fun w hSw=>by go_split_ands;go_simp<;>first|omega|(rw[IntKind.wrap_i64];omega)|(intro h;exfalso;omega)) ?_;simp only[pS];refine tK 6 (some 19) (.bool false) rfl rfl hS1 (fun w hSw=>by go_split_ands;go_simp<;>first|omega|(rw[IntKind.wrap_i64];omega)|(intro h;exfalso;omega)) ?_;simp only[pS];refine tK 7 (some 20) (.int .i64 (k:Int)) rfl rfl hS1 (fun w hSw=>by go_split_ands;go_simp<;>first|omega|(rw[IntKind.wrap_i64];omega)|(intro h;exfalso;omega)) ?_;simp only[pS];refine tK 8 (some 21) (.bool true) rfl rfl hS1 (fun w hSw=>by go_split_ands;go_simp<;>first|omega|(rw[IntKind.wrap_i64];omega)|(intro h;exfalso;omega)) ?_;simp only[pS];refine tK 9 (some 22) (.bool true) rfl rfl hS1 (fun w hSw=>by go_split_ands;go_simp<;>first|omega|(rw[IntKind.wrap_i64];omega)|(intro h;exfalso;omega)) ?_;simp only[pS];refine tK 10 (some 23) (.slice (some ⟨b,o,none⟩) n cap) rfl rfl hS1 (fun w hSw=>by go_split_ands;go_simp<;>first|omega|(rw[IntKind.wrap_i64];omega)|(intro h;exfalso;omega)) ?_;simp only[pS];refine tK 11 (some 24) (.int .i64 (k:Int)) rfl rfl hS1 (fun w hSw=>by go_split_ands;go_simp<;>first|omega|(rw[IntKind.wrap_i64];omega)|(intro h;exfalso;omega)) ?_;simp only[pS];refine tK 12 (some 25) (.pointer (some ⟨b,o+k*2,none⟩)) rfl rfl hS1 (fun w hSw=>by go_split_ands;go_simp<;>first|omega|(rw[IntKind.wrap_i64];omega)|(intro h;exfalso;omega)) ?_;simp only[pS];refine tK 13 (some 26) (.pointer (some ⟨b,o+k*2,none⟩)) rfl rfl hS1 (fun w hSw=>by go_split_ands;go_simp<;>first|omega|(rw[IntKind.wrap_i64];omega)|(intro h;exfalso;omega)) ?_;simp only[pS];refine tK 14 (some 27) (.int .i64 (T k)) rfl rfl hS1 (fun w hSw=>by go_split_ands;go_simp<;>first|omega|(rw[IntKind.wrap_i64];omega)|(intro h;exfalso;omega)) ?_;simp only[pS];refine tK 15 (some 28) (.slice (some ⟨b,o,none⟩) n cap) rfl rfl hS1 (fun w hSw=>by go_split_ands;go_simp<;>first|omega|(rw[IntKind.wrap_i64];omega)|(intro h;exfalso;omega)) ?_;simp only[pS];refine tK 16 (some 29) (.int .i64 (k:Int)) rfl rfl hS1 (fun w hSw=>by go_split_ands;go_simp<;>first|omega|(rw[IntKind.wrap_i64];omega)|(intro h;exfalso;omega)) ?_;simp only[pS];refine tK 17 (some 30) (.int .i64 ((k:Int)-1)) rfl rfl hS1 (fun w hSw=>by go_split_ands;go_simp<;>first|omega|(rw[IntKind.wrap_i64];omega)|(intro h;exfalso;omega)) ?_;simp only[pS];refine tK 18 (some 31) (.pointer (some ⟨b,o+(k-1)*2,none⟩)) rfl rfl hS1 (fun w hSw=>by go_split_ands;go_simp<;>first|omega|(rw[IntKind.wrap_i64];omega)|(intro h;exfalso;omega)) ?_;simp only[pS];refine tK 19 (some 32) (.pointer (some ⟨b,o+(k-1)*2,none⟩)) rfl rfl hS1 (fun w hSw=>by go_split_ands;go_simp<;>first|omega|(rw[IntKind.wrap_i64];omega)|(intro h;exfalso;omega)) ?_;simp only[pS];refine tK 20 (some 33) (.int .i64 (T (k-1))) rfl rfl hS1 (fun w hSw=>by go_split_ands;go_simp<;>first|omega|(rw[IntKind.wrap_i64];omega)|(intro h;exfalso;omega)) ?_;simp only[pS];refine tK 21 (some 34) (.bool false) rfl rfl hS1 (fun w hSw=>by go_split_ands;go_simp<;>first|omega|(rw[IntKind.wrap_i64];omega)|(intro h;exfalso;omega)) ?_;simp only[pS];refine tK 22 (some 35) (.bool false) rfl rfl hS1 (fun w hSw=>by go_split_ands;go_simp<;>first|omega|(rw[IntKind.wrap_i64];omega)|(intro h;exfalso;omega)) ?_;simp only[pS];refine tK 23 (some 36) (.bool false) rfl rfl hS1 (fun w hSw=>by go_split_ands;go_simp<;>first|omega|(rw[IntKind.wrap_i64];omega)|(intro h;exfalso;omega)) ?_;simp only[pS];refine wpAnyH_done (by kernel_rfl) ?_ _;go_wp2
   go_roundw
   case rel=>
    refine⟨k+1,by omega,by go_num,fun j hj=>?_,below_next hbel.drew nl hb1⟩
    by_cases e:j=k
    ·subst e;exact hyes'
    ·exact hat j (by omega)
   case measure=>simp[intOf];omega
theorem faultOfLog_any (ao:Option Addr) (n cap:Nat) (T:Nat->Int) (X:Nat->ByteArray) (a:Addr) (hn:n<=9223372036854775807) (hX:∀ k,k<n->(X k).size<=1048576) (w:World) (hr:NRow w ao n T X)
  (hV:w.cell? ⟨0,0,none⟩=some (.iface 199 (.pointer (some a)))):
  Calls Tryz.prog 110 #[.slice ao n cap] w fun e w'=>(logB n T X=true/\e=.returned .nilIface\/logB n T X=false/\∃ m,e=.returned (mis m a))/\Below w.heap.size w w':=by
 by_cases h200:200<n
 ·have h2':(200:Int)<(n:Int):=by omega
  go_enter Tryz.func110,Tryz.ntmps110;go_wp2;go_ret;exact⟨Or.inr ⟨logB_long h200,_,rfl⟩,Below.refl _ _⟩
 have h2':¬ (200:Int)<(n:Int):=by omega
 have HB:Hid ((∀ k,k<n->logAt T X k=true)->logB n T X=true):=fun h=>logB_true (by omega) h
 have HN:Hid (∀ k,k<n->logAt T X k=false->logB n T X=false):=fun k h1 h2=>logB_bad h1 h2
 generalize logB n T X=B at HB HN ⊢;go_enter Tryz.func110,Tryz.ntmps110;go_wp2
 go_loopw [3,16] (fun l i wr=>∃ k:Nat,k<=n/\i=.int .i64 k/\l=.int .i64 (if k=0 then 1 else T (k-1))/\(∀ j,j<k->logAt T X j=true)/\Below w.heap.size w wr) (fun _ i _=>n-(intOf i).toNat)
 case atStart=>exact⟨0,Nat.zero_le _,rfl,rfl,fun j hj=>by omega,Below.refl _ _⟩
 case round=>
  obtain⟨k,hk,rfl,rfl,hat,hbel⟩:=hrel
  by_cases hlt:k<n
  rotate_left
  ·have hkn:k=n:=by omega
   subst hkn;generalize (if k=0 then (1:Int) else T (k-1))=l;go_wp2;go_ret;exact⟨Or.inl ⟨HB.out hat,rfl⟩,hbel⟩
  obtain⟨b,o,hao,c0,c1⟩:=(hr.below hbel nl) k hlt;subst hao;have hk1:(0:Int)<=(k:Int):=by omega
  have hk2:(k:Int)<(n:Int):=by omega
  have hR:=fun W=>implRead_same (X k) (hX k hlt) W
  obtain⟨R,hRe⟩:∃ R,onlyOk (rdS (X k).data.toList)=R:=⟨_,rfl⟩
  rw[hRe]at hR;have hiC:isC (X k)=R.isSome:=by unfold isC;rw[hRe]
  have HR:Hid (∀ W,Calls Tryz.prog 58 #[.string (X k)] W fun e w'=>CAns W w' e R):=hR;clear hR hRe;have hg0:wr.cell? ⟨0,0,none⟩=some (.iface 199 (.pointer (some a))):=by rw[hbel.cell (lt_of_cell hV)];exact hV
  obtain⟨l,hl⟩:∃ l,(if k=0 then 1 else T (k-1))=l:=⟨_,rfl⟩
  have hl2:∀ t,(1<=t/\(k=0\/T (k-1)<=t))↔l<=t:=by
   intro t;subst hl
   by_cases h0:k=0
   ·simp[h0]
   ·have:=(logAt_out (hat (k-1) (by omega))).2.1
    simp only[h0,if_false,false_or];omega
  rw[hl];clear hl
  go_wp2_with fail
  refine (HR.out _).mono ?_;rintro e w1 ⟨ao',cap',rfl,_,hb1⟩;have hA:Below w.heap.size w w1:=(hbel.alloc hbel.size _).trans (hb1.mono (by have:=hbel.size;simp;omega));have c0':w1.cell? ⟨wr.heap.size,0,none⟩=some (.int .i64 (T k)):=by rw[hb1.cell (by simp)];simp[go_sem]
  have g0':w1.cell? ⟨0,0,none⟩=some (.iface 199 (.pointer (some a))):=by rw[hA.cell (lt_of_cell hV)];exact hV
  have hA2:=fun o=>hA.alloc hA.size o
  have d0:∀ o,(w1.alloc o).cell? ⟨wr.heap.size,0,none⟩=some (.int .i64 (T k)):=fun o=>by rw[((Below.refl w1.heap.size w1).alloc nl o).cell (lt_of_cell c0')];exact c0'
  have g0:∀ o,(w1.alloc o).cell? ⟨0,0,none⟩=some (.iface 199 (.pointer (some a))):=fun o=>by rw[((Below.refl w1.heap.size w1).alloc nl o).cell (lt_of_cell g0')];exact g0'
  clear c0' g0' hb1 c0 c1 hg0;cases hq:R.isSome
  ·have hno:logAt T X k=false:=logAt_not (fun h=>by rw[hiC,hq]at h;exact absurd h.1 (by simp))
   go_wp2;go_ret;exact⟨Or.inr ⟨HN.out k hlt hno,_,rfl⟩,hA2 _⟩
  by_cases h3:T k<l
  ·have hno:logAt T X k=false:=logAt_not (fun h=>by have:=(hl2 (T k)).1 ⟨h.2.1,h.2.2.2⟩;omega)
   go_wp2;go_ret;exact⟨Or.inr ⟨HN.out k hlt hno,_,rfl⟩,hA2 _⟩
  by_cases h4:(100000:Int)<T k
  ·have hno:logAt T X k=false:=logAt_not (fun h=>by omega)
   go_wp2;go_ret;exact⟨Or.inr ⟨HN.out k hlt hno,_,rfl⟩,hA2 _⟩
  have hyes:logAt T X k=true:=by
   have:=(hl2 (T k)).2 (by omega);exact logAt_mk (by rw[hiC,hq]) this.1 (by omega) this.2
  go_wp2
  go_roundw
  case rel=>
   refine⟨k+1,by omega,by go_num,by simp,fun j hj=>?_,hA2 _⟩
   by_cases e:j=k
   ·subst e;exact hyes
   ·exact hat j (by omega)
  case measure=>simp[intOf];omega
theorem implLogOk_any (ao:Option Addr) (n cap:Nat) (T:Nat->Int) (X:Nat->ByteArray) (a:Addr) (hn:n<=9223372036854775807) (hX:∀ k,k<n->(X k).size<=1048576) (w:World) (hr:NRow w ao n T X)
  (hV:w.cell? ⟨0,0,none⟩=some (.iface 199 (.pointer (some a)))):
  Calls Tryz.prog 85 #[.slice ao n cap] w fun e w'=>e=.returned (.bool (logB n T X))/\Below w.heap.size w w':=by
 have HF:Hid (∀ W,NRow W ao n T X->W.cell? ⟨0,0,none⟩=some (.iface 199 (.pointer (some a)))->Calls Tryz.prog 110 #[.slice ao n cap] W fun e w'=>(logB n T X=true/\e=.returned .nilIface\/logB n T X=false/\∃ m,e=.returned (mis m a))/\Below W.heap.size W w'):=fun W h1 h2=>faultOfLog_any ao n cap T X a hn hX W h1 h2
 generalize logB n T X=B at HF ⊢;go_enter Tryz.func85,Tryz.ntmps85
 go_wp2_with fail
 have hS:(fun w':World=>w'.cell? ⟨0,0,none⟩=some (.iface 199 (.pointer (some a)))) w.drew:=hV;refine wp_region_held_drew (S:=fun w'=>w'.cell? ⟨0,0,none⟩=some (.iface 199 (.pointer (some a)))) (by kernel_rfl) hS (fun hS=>?_);refine tK 0 (some 3) (.slice ao n cap) rfl rfl hS (fun w hSw=>by go_simp) ?_;simp only[pS];refine tK 2 (some 5) (.iface 199 (.pointer (some a))) rfl rfl hS (fun w hSw=>by have hSw':w.cell? ⟨0,0,none⟩=some (.iface 199 (.pointer (some a))):=hSw;go_simp) ?_;simp only[pS];refine step1H 1 _ rfl (by kernel_rfl) (by rfl) ?_;go_simp;refine (HF.out _ (hr.below (Below.refl w.heap.size w).drew nl) hV).mono ?_;rintro e w1 ⟨hE,hb1⟩;have hS1:w1.cell? ⟨0,0,none⟩=some (.iface 199 (.pointer (some a))):=keep_cell hb1 nl hS;have hA:=below_next (Below.refl w.heap.size w).drew nl hb1;rcases hE with ⟨rfl,rfl⟩|⟨rfl,m,rfl⟩
 ·refine⟨hS1,?_⟩
  refine step1H 3 _ rfl (by kernel_rfl) (by rfl) ?_;go_simp;refine (is_nil a _).mono ?_;rintro e w2 ⟨rfl,rfl⟩;refine⟨hS1,?_⟩;refine tK 4 (some 7) (.bool true) rfl rfl hS1 (fun w hSw=>by go_simp) ?_;simp only[pS];refine tK 5 (some 2) (.bool true) rfl rfl hS1 (fun w hSw=>by go_simp) ?_;simp only[pS];refine wpAnyH_done (by kernel_rfl) ?_ _;go_wp2;go_ret;exact⟨rfl,hA⟩
 ·refine⟨hS1,?_⟩
  refine step1H 3 _ rfl (by kernel_rfl) (by rfl) ?_;go_simp;refine (is_mis m a _).mono ?_;rintro e w2 ⟨rfl,hb2⟩;have hS2:w2.cell? ⟨0,0,none⟩=some (.iface 199 (.pointer (some a))):=keep_cell hb2 nl hS1;refine⟨hS2,?_⟩;refine tK 4 (some 7) (.bool false) rfl rfl hS2 (fun w hSw=>by go_simp) ?_;simp only[pS];refine tK 5 (some 2) (.bool false) rfl rfl hS2 (fun w hSw=>by go_simp) ?_;simp only[pS];refine wpAnyH_done (by kernel_rfl) ?_ _;go_wp2;go_ret;exact⟨rfl,below_next hA nl hb2⟩
end
section
open Go Go.RowKit
section
variable {P:Program} {ops:Array Oper}
abbrev gv (c:Bool) (v:Value):Value:=bif c then v else undef
theorem wanted_gd {o:Oper} {a:Act} {j d:Nat} {b Cj bj:Bool} (hg:o.guard=some (j,b)) (hd:(ops[j]?).bind (·.dst)=some d) (he:a.eval (.tmp d)=gv Cj (.bool bj)):Region.wanted o (yielded ops a.tmps)=(Cj&&(bj==b)):=by
 unfold Region.wanted yielded;rw[hg];simp only[hd];simp only[Act.eval,Array.getD_eq_getD_getElem?]at he;simp only[Option.bind_some];cases h:a.tmps[d]? with
 | none=>
  rw[h]at he;cases Cj
  ·simp
  ·simp[gv,undef]at he
 | some u=>
  rw[h]at he;simp only[Option.getD_some]at he;subst he;cases Cj
  ·simp[gv,undef]
  ·simp[gv]
theorem OpOk.gd {a0:Act} {w0:World} {R:World->World->Prop} {Pr:Nat->Value->World->Prop} {i:Nat} {o:Oper} (hR:∀ w,R w w) (j d:Nat) (b Cj bj:Bool) (hPj:∀ v w,Pr j v w->v=gv Cj (.bool bj)) (C:Bool) (hC:C=(Cj&&(bj==b))) (u:Value) (hp:∀ w,Pr i (gv C u) w)
  (h:∀ (ev:Operand->Value) (w:World) (v:Nat->Value),R w0 w->EvOk ops a0 o v ev->(∀ j,j<ops.size->waitsB o j=true->Pr j (v j) w)->C=true->(execOp ev o).run P w=.ok (.value u) w)
  (hg:o.guard=some (j,b):=by rfl) (h1:(ops[j]?).bind (·.dst)=some d:=by rfl) (h2:waitsB o j=true:=by kernel_rfl) (h3:Nat.blt d a0.tmps.size=true:=by kernel_rfl) (h4:Nat.blt j ops.size=true:=by kernel_rfl):OpOk P ops a0 w0 R Pr i o:=by
 intro a w v Q hRw hd hpr hb
 have E:EvOk ops a0 o v a.eval:=⟨fun j d hj hw hlt=>by
  cases ho:ops[j]? with
  | none=>rw[ho]at hj;cases hj
  | some p=>
   rw[ho]at hj
   exact hd j p d ho hj hlt (waitsB_for hw),fun d hn=>hb d fun j p hj=>noDstB_spec hn j p hj,fun _=>rfl,fun _=>rfl,fun _=>rfl⟩
 have hpr':∀ j,j<ops.size->waitsB o j=true->Pr j (v j) w:=fun j hj hw=>hpr j hj (waitsB_for hw)
 have he:=hPj _ _ (E.get hpr' j d h1 h2 h3 h4);rw[wanted_gd hg h1 he,<-hC];cases hc:C with
 | true=>
  rw[if_pos rfl];have hr:=h a.eval w v hRw E hpr' hc;unfold Oper.wp;rw[hr];have:=hp w;rw[hc]at this;exact⟨u,rfl,hR w,this⟩
 | false=>
  rw[if_neg (by simp)];have:=hp w;rw[hc]at this;exact this
theorem OpOk.gdCall {a0:Act} {w0:World} {R:World->World->Prop} {Pr:Nat->Value->World->Prop} {i:Nat} {o:Oper} (j d:Nat) (b Cj bj:Bool) (hPj:∀ v w,Pr j v w->v=gv Cj (.bool bj)) (C:Bool) (hC:C=(Cj&&(bj==b))) (u:Value) (hp:∀ w,Pr i (gv C u) w)
  (h:∀ (ev:Operand->Value) (w:World) (v:Nat->Value),R w0 w->EvOk ops a0 o v ev->(∀ j,j<ops.size->waitsB o j=true->Pr j (v j) w)->C=true->∃ f args,(execOp ev o).run P w=.ok (.enter f args) w/\Calls P f args w fun e w'=>e=.returned u/\R w w')
  (hg:o.guard=some (j,b):=by rfl) (h1:(ops[j]?).bind (·.dst)=some d:=by rfl) (h2:waitsB o j=true:=by kernel_rfl) (h3:Nat.blt d a0.tmps.size=true:=by kernel_rfl) (h4:Nat.blt j ops.size=true:=by kernel_rfl):OpOk P ops a0 w0 R Pr i o:=by
 intro a w v Q hRw hd hpr hb
 have E:EvOk ops a0 o v a.eval:=⟨fun j d hj hw hlt=>by
  cases ho:ops[j]? with
  | none=>rw[ho]at hj;cases hj
  | some p=>
   rw[ho]at hj
   exact hd j p d ho hj hlt (waitsB_for hw),fun d hn=>hb d fun j p hj=>noDstB_spec hn j p hj,fun _=>rfl,fun _=>rfl,fun _=>rfl⟩
 have hpr':∀ j,j<ops.size->waitsB o j=true->Pr j (v j) w:=fun j hj hw=>hpr j hj (waitsB_for hw)
 have he:=hPj _ _ (E.get hpr' j d h1 h2 h3 h4);rw[wanted_gd hg h1 he,<-hC];cases hc:C with
 | true=>
  rw[if_pos rfl];obtain⟨f,args,hr,hcl⟩:=h a.eval w v hRw E hpr' hc;unfold Oper.wp;rw[hr];refine Calls.mono hcl ?_;rintro e w' ⟨rfl,h9⟩;have:=hp w';rw[hc]at this;exact⟨u,rfl,h9,this⟩
 | false=>
  rw[if_neg (by simp)];have:=hp w;rw[hc]at this;exact this
theorem OpOk.ret {a0:Act} {w0:World} {R:World->World->Prop} {Pr:Nat->Value->World->Prop} {i:Nat} {o:Oper} (u:Value) (hp:∀ w,Pr i u w)
  (h:∀ (ev:Operand->Value) (w:World) (v:Nat->Value),R w0 w->EvOk ops a0 o v ev->(∀ j,j<ops.size->waitsB o j=true->Pr j (v j) w)->∃ f args,(execOp ev o).run P w=.ok (.enter f args) w/\Calls P f args w fun e w'=>e=.returned u/\R w w') (hg:o.guard=none:=by rfl):OpOk P ops a0 w0 R Pr i o:=
 OpOk.call hg fun ev w v hR E pr=>by
  obtain⟨f,args,hr,hc⟩:=h ev w v hR E pr;exact⟨f,args,hr,hc.mono fun e w' h=>⟨u,h.1,h.2,hp w'⟩⟩
end
structure En where
 t:Int
 x:ByteArray
def en0:En:=⟨0,ByteArray.empty⟩
structure Nd where
 id:Int
 peers:Int
 term:Int
 vote:Int
 log:List En
 role:Int
 commit:Int
 votes:List Int
 next:List Int
 mat:List Int
structure Ms where
 kind:Int
 term:Int
 frm:Int
 to:Int
 index:Int
 lterm:Int
 ents:List En
 commit:Int
 yes:Bool
def tOf (l:List En) (k:Nat):Int:=(l.getD k en0).t
def xOf (l:List En) (k:Nat):ByteArray:=(l.getD k en0).x
def iOf (l:List Int) (k:Nat):Int:=l.getD k 0
def ilc (l:List Int):List Value:=l.map (Value.int .i64)
def elc:List En->List Value
 | []=>[]
 | e :: r=>.int .i64 e.t :: .string e.x :: elc r
theorem ilc_len (l:List Int):(ilc l).length=l.length:=by simp[ilc]
theorem elc_len:∀ l:List En,(elc l).length=l.length*2
 | []=>rfl
 | e :: r=>by simp[elc,elc_len r];omega
theorem ilc_at {l:List Int} {k:Nat} (h:k<l.length):(ilc l)[k]?=some (.int .i64 (iOf l k)):=by
 simp[ilc,iOf,h]
theorem elc_at:∀ {l:List En} {k:Nat},k<l.length->(elc l)[k*2]?=some (.int .i64 (tOf l k))/\(elc l)[k*2+1]?=some (.string (xOf l k))
 | [],k,h=>by simp at h
 | e :: r,0,h=>by simp[elc,tOf,xOf]
 | e :: r,k+1,h=>by
  have:=elc_at (l:=r) (k:=k) (by simpa using h);have e1:(k+1)*2=k*2+1+1:=by omega
  rw[e1];simp only[elc,List.getElem?_cons_succ];simpa[tOf,xOf] using this
def LRow (w:World) (t:TypeId) (ao:Option Addr) (cs:List Value):Prop:=cs≠[]->∃ b o,ao=some ⟨b,o,none⟩/\Typed w b t/\∀ j v,cs[j]?=some v->w.cell? ⟨b,o+j,none⟩=some v
theorem tylt {w:World} {b:Nat} {t:TypeId} (h:Typed w b t):b<w.heap.size:=by
 obtain⟨cs,z,h⟩:=h;exact (Array.getElem?_eq_some_iff.1 h).1
theorem LRow.of_block {w w':World} {t:TypeId} {ao:Option Addr} {cs:List Value} (h:LRow w t ao cs) (e:∀ b,Typed w b t->w'.heap[b]?=w.heap[b]?):LRow w' t ao cs:=fun hc=>by
 obtain⟨b,o,e1,ht,h2⟩:=h hc;refine⟨b,o,e1,?_,fun j v hj=>by rw[World.cell?_of_block (w:=w) (e b ht)];exact h2 j v hj⟩;have e2:=e b ht;obtain⟨cs',z,h3⟩:=ht;exact⟨cs',z,e2.trans h3⟩
theorem LRow.next {w w':World} {t:TypeId} {ao:Option Addr} {cs:List Value} (h:LRow w t ao cs) (hb:Below w.heap.size w w'):LRow w' t ao cs:=h.of_block fun b ht=>hb.block b (tylt ht)
theorem LRow.gr {w w':World} {t u:TypeId} {ao:Option Addr} {cs:List Value} {row:Option Nat} (h:LRow w t ao cs) (hg:w.grownBy w' row) (hx:∀ x,row=some x->Typed w x u) (hn:t≠u):LRow w' t ao cs:=h.of_block fun b ht=>hg.block b (tylt ht) fun q=>typed_ne ht (hx b q.symm) hn rfl
theorem LRow.nil {w:World} {t:TypeId} {ao:Option Addr}:LRow w t ao []:=fun h=>absurd rfl h
theorem LRow.i {w:World} {ao:Option Addr} {l:List Int} {t:TypeId} (h:LRow w t ao (ilc l)):IRow w ao l.length (iOf l):=fun k hk=>by
 obtain⟨b,o,e,_,h2⟩:=h (fun q=>by have:=ilc_len l;rw[q]at this;simp at this;omega);exact⟨b,o,e,h2 k _ (ilc_at hk)⟩
theorem LRow.n {w:World} {ao:Option Addr} {l:List En} {t:TypeId} (h:LRow w t ao (elc l)):NRow w ao l.length (tOf l) (xOf l):=fun k hk=>by
 obtain⟨b,o,e,_,h2⟩:=h (fun q=>by have:=elc_len l;rw[q]at this;simp at this;omega);refine⟨b,o,e,?_⟩;have:=elc_at hk;have h3:=h2 _ _ this.1;have h4:=h2 _ _ this.2
 first
 | exact⟨h3,h4⟩
 | exact⟨h3,by rw[<-Nat.add_assoc]at h4;exact h4⟩
structure NdS where
 lo:Option Addr
 lc:Nat
 vo:Option Addr
 vc:Nat
 no:Option Addr
 nc:Nat
 mo:Option Addr
 mc:Nat
abbrev ndL (n:Nd) (s:NdS):List Value:=[.int .i64 n.id,.int .i64 n.peers,.int .i64 n.term,.int .i64 n.vote,.slice s.lo n.log.length s.lc,.int .i64 n.role,.int .i64 n.commit,.slice s.vo n.votes.length s.vc,.slice s.no n.next.length s.nc,.slice s.mo n.mat.length s.mc]
abbrev ndV (n:Nd) (s:NdS):Value:=.agg #[.int .i64 n.id,.int .i64 n.peers,.int .i64 n.term,.int .i64 n.vote,.slice s.lo n.log.length s.lc,.int .i64 n.role,.int .i64 n.commit,.slice s.vo n.votes.length s.vc,.slice s.no n.next.length s.nc,.slice s.mo n.mat.length s.mc]
structure NdM (w:World) (n:Nd) (s:NdS):Prop where
 l:LRow w 47 s.lo (elc n.log)
 v:LRow w 2 s.vo (ilc n.votes)
 x:LRow w 2 s.no (ilc n.next)
 m:LRow w 2 s.mo (ilc n.mat)
theorem NdM.next {w w':World} {n:Nd} {s:NdS} (h:NdM w n s) (hb:Below w.heap.size w w'):NdM w' n s:=⟨h.l.next hb,h.v.next hb,h.x.next hb,h.m.next hb⟩
theorem NdM.below {w w':World} {B:Nat} {n:Nd} {s:NdS} (h:NdM w n s) (hb:Below B w w') (hB:w.heap.size<=B):NdM w' n s:=h.next (hb.mono hB)
theorem NdM.gr {w w':World} {n:Nd} {s:NdS} {row:Option Nat} {u:TypeId} (h:NdM w n s) (hg:w.grownBy w' row) (hx:∀ x,row=some x->Typed w x u) (h1:47≠u) (h2:2≠u):NdM w' n s:=⟨h.l.gr hg hx h1,h.v.gr hg hx h2,h.x.gr hg hx h2,h.m.gr hg hx h2⟩
structure NdZ (n:Nd) (s:NdS):Prop where
 l:n.log.length<=1048576
 v:n.votes.length<=1048576
 x:n.next.length<=1048576
 m:n.mat.length<=1048576
 lc:n.log.length<=s.lc
 vc:n.votes.length<=s.vc
 xc:n.next.length<=s.nc
 mc:n.mat.length<=s.mc
 tx:∀ k,k<n.log.length->(xOf n.log k).size<=1048576
theorem box_new (w:World) (l:List Value) (t:TypeId):VHas (w.alloc (.cells l.toArray t)) w.heap.size t l.length (lf l):=
 ⟨_,Go.Deep.blk_alloc_new _ _,by simp,fun j hj=>by simp[lf,hj]⟩
abbrev NdB (w:World) (b:Nat) (n:Nd) (s:NdS):Prop:=VHas w b 27 10 (lf (ndL n s))
theorem ndB_new (w:World) (n:Nd) (s:NdS):NdB (w.alloc (.cells (ndL n s).toArray 27)) w.heap.size n s:=box_new w (ndL n s) 27
theorem exec_nd {o:Oper} {ev:Operand->Value} {x:Operand} {b:Nat} {W:World} {n:Nd} {s:NdS} (ho:o.op=.load 27 x) (hx:ev x=.pointer (some ⟨b,0,none⟩)) (h:NdB W b n s):(execOp ev o).run Tryz.prog W=.ok (.value (ndV n s)) W:=by
 obtain⟨c0,c1,c2,c3,c4,c5,c6,c7,c8,c9⟩:=h.c10;simp[lf]at c0 c1 c2 c3 c4 c5 c6 c7 c8 c9;unfold execOp;simp[ho,hx,go_sem,c0,c1,c2,c3,c4,c5,c6,c7,c8,c9]
abbrev nd0:Nd:=⟨0,0,0,0,[],0,0,[],[],[]⟩
abbrev ns0:NdS:=⟨none,0,none,0,none,0,none,0⟩
theorem ndT {W:World} {b:Nat} {n:Nd} {s:NdS} (h:NdB W b n s):∀ x,some b=some x->Typed W x 27:=fun x e=>by cases e;exact VHas.typed h
theorem gr_rb {w W W':World} {b:Nat} (h:RB w W) (hg:W.grownBy W' (some b)) (hb:w.heap.size<=b):RB w W':=below_row h hg (fun x e=>by cases e;exact hb)
theorem GOwn.cap {w:World} {base:Nat} {t:TypeId} {size:Nat} {ao:Option Addr} {n cap:Nat} {f:Nat->Value} (h:GOwn w base t size ao n cap f):n<=cap:=by
 rcases h.2 with ⟨h2,h3⟩|⟨g',cap',cur,h2,_,_,h3,_⟩
 ·omega
 ·simp at h2;omega
theorem GOwn.lrow {w:World} {base:Nat} {t:TypeId} {size:Nat} {ao:Option Addr} {n cap:Nat} {cs:List Value} (h:GOwn w base t size ao n cap (lf cs)) (hl:cs.length=n*size):LRow w t ao cs:=fun hc=>by
 have hp:0<n*size:=by
  rw[<-hl];exact List.length_pos_iff.2 hc
 obtain⟨g,e,hv⟩:=h.trow hp;refine⟨g,0,e,hv.typed,fun j v hj=>?_⟩
 have hlt:j<cs.length:=by
  rcases Nat.lt_or_ge j cs.length with q|q
  ·exact q
  ·rw[List.getElem?_eq_none q]at hj;cases hj
 have:=hv.cell (j:=j) (by omega);rw[Nat.zero_add,this];simp[lf,hj]
theorem LRow.g {w:World} {t:TypeId} {ao:Option Addr} {cs:List Value} (h:LRow w t ao cs) {m:Nat} (hm:cs.length=m):GRow w ao m (lf cs):=fun hp=>by
 obtain⟨b,o,e,_,hc⟩:=h (fun q=>by rw[q]at hm;simp at hm;omega);refine⟨b,o,e,fun j hj=>?_⟩;have hlt:j<cs.length:=by omega
 have:cs[j]?=some cs[j]:=by simp[hlt]
 rw[hc j _ this];simp[lf,this]
end
section
open Go.RowKit
attribute [local go_sem ↓] Go.wp_at_zero Go.wp_at_succ
def lastT (n:Nat) (T:Nat->Int):Int:=if n=0 then 0 else T (n-1)
theorem implLastTerm_any (ao:Option Addr) (n cap:Nat) (T:Nat->Int) (X:Nat->ByteArray) (hn:n<=9223372036854775807) (w:World) (hr:NRow w ao n T X):
  Calls Tryz.prog 86 #[.slice ao n cap] w fun e w'=>e=.returned (.int .i64 (lastT n T))/\w'=w:=by
 unfold lastT
 by_cases h0:n=0
 ·subst h0
  rw[if_pos rfl];go_enter Tryz.func86,Tryz.ntmps86;go_wp2;go_ret;exact⟨rfl,rfl⟩
 ·rw[if_neg h0]
  obtain⟨b,o,rfl,c0,c1⟩:=hr (n-1) (by omega);have hi:((n:Int)-1).toNat=n-1:=by omega
  have hn1:¬ ((n:Int)=0):=by omega
  have hn2:(0:Int)<=(n:Int)-1:=by omega
  have hn3:(n:Int)-1<(n:Int):=by omega
  go_enter Tryz.func86,Tryz.ntmps86;go_wp2;go_ret;exact⟨rfl,rfl⟩
end
section
open Go Go.RowKit
def logL (l:List En):Bool:=logB l.length (tOf l) (xOf l)
def lastL (l:List En):Int:=lastT l.length (tOf l)
def votesB (p:Int):Int->List Int->Bool
 | _,[]=>true
 | least,v :: r=>decide (least<=v)&&(decide (0<=v/\v<p)&&votesB p (v+1) r)
def reachAt (e:Int) (nx mt:List Int) (i:Nat):Bool:=decide (1<=iOf nx i/\iOf nx i<=e+1/\0<=iOf mt i/\iOf mt i<=e)
def reachB (n:Nd):Bool:=decide ((n.next.length:Int)=n.peers/\(n.mat.length:Int)=n.peers)&&(List.range n.next.length).all (reachAt n.log.length n.next n.mat)
def roleB (n:Nd):Bool:=
 if n.role=3 then votesB n.peers 0 n.votes&&reachB n
 else if n.role=1 then n.votes.isEmpty&&(n.next.isEmpty&&n.mat.isEmpty)
 else if n.role=2 then votesB n.peers 0 n.votes&&(n.next.isEmpty&&n.mat.isEmpty)
 else false
def srvB (p x:Int):Bool:=decide (0<=x/\x<p)
def nodeB (n:Nd):Bool:=decide (1<=n.peers/\n.peers<=5)&&(srvB n.peers n.id&&(decide (0<=n.term/\n.term<=100000)&&((n.vote == -1||srvB n.peers n.vote)&&((logL n.log&&decide (lastL n.log<=n.term))&&(decide (0<=n.commit/\n.commit<=n.log.length)&&roleB n)))))
structure GlV (w:World) (aL aE aO:Addr):Prop where
 l:w.cell? ⟨0,0,none⟩=some (.iface 199 (.pointer (some aL)))
theorem GlV.next {w w':World} {aL aE aO:Addr} (h:GlV w aL aE aO) (hb:Below w.heap.size w w'):GlV w' aL aE aO:=⟨keep_cell hb nl h.l⟩
end
section
open Go.RowKit
def nCells (T:Nat->Int) (X:Nat->ByteArray) (m:Nat):List Value:=(List.range (m*2)).map (nr T X)
theorem nCells_len (T:Nat->Int) (X:Nat->ByteArray) (m:Nat):(nCells T X m).length=m*2:=by simp[nCells]
theorem nCells_at {T:Nat->Int} {X:Nat->ByteArray} {m j:Nat} (h:j<m*2):(nCells T X m)[j]?=some (nr T X j):=by simp[nCells,h]
theorem nCells_one (T:Nat->Int) (X:Nat->ByteArray) (m:Nat):∀ u∈nCells T X m,u.oneCell'=true:=fun u hu=>by
 simp only[nCells,List.mem_map,List.mem_range]at hu;obtain⟨j,_,rfl⟩:=hu;unfold nr
 split<;>rfl
theorem nCells_app {T U:Nat->Int} {X Y:Nat->ByteArray} {a b:Nat} (T':Nat->Int) (X':Nat->ByteArray) (h1:∀ j,j<a->T' j=T j/\X' j=X j) (h2:∀ j,j<b->T' (a+j)=U j/\X' (a+j)=Y j):
  nCells T X a++nCells U Y b=nCells T' X' (a+b):=by
 apply List.ext_getElem?;intro j
 by_cases hj:j<a*2
 ·rw[List.getElem?_append_left (by rw[nCells_len];exact hj),nCells_at hj,nCells_at (by omega)]
  congr 1
  exact nr_congr (n:=a) (fun k hk=>(h1 k hk).1.symm) (fun k hk=>(h1 k hk).2.symm) j hj
 ·rw[List.getElem?_append_right (by rw[nCells_len];omega),nCells_len]
  by_cases hj2:j<(a+b)*2
  ·rw[nCells_at (by omega),nCells_at hj2]
   congr 1
   have e:j / 2=a+(j-a*2) / 2:=by omega
   have e2:j%2=(j-a*2)%2:=by omega
   have:=h2 ((j-a*2) / 2) (by omega);unfold nr;rw[e,e2,this.1,this.2]
  ·rw[List.getElem?_eq_none (by rw[nCells_len];omega),List.getElem?_eq_none (by rw[nCells_len];omega)]
theorem NRow.news {w:World} {b o n:Nat} {T:Nat->Int} {X:Nat->ByteArray} (hr:NRow w (some ⟨b,o,none⟩) n T X):∀ j u,(nCells T X n)[j]?=some u->w.cell? ((⟨b,o,none⟩:Addr).add j)=some u:=fun j u hu=>by
 have hj:j<n*2:=by
  rcases Nat.lt_or_ge j (n*2) with h|h
  ·exact h
  ·rw[List.getElem?_eq_none (by rw[nCells_len];exact h)]at hu;cases hu
 rw[nCells_at hj]at hu;obtain rfl:=Option.some.inj hu;obtain⟨b',o',e,c0,c1⟩:=hr (j / 2) (by omega);simp only[Option.some.injEq,Addr.mk.injEq,and_true]at e;obtain⟨rfl,rfl⟩:=e;rw[Addr.add_mid];unfold nr
 split
 ·rename_i h2
  have:o+j=o+j / 2*2:=by omega
  rw[this];exact c0
 ·rename_i h2
  have:o+j=o+j / 2*2+1:=by omega
  rw[this];exact c1
theorem nhas_of_owns {w:World} {base g n cap:Nat} {T:Nat->Int} {X:Nat->ByteArray} {xs:List Value} (h:w.ownsRow base 47 2 (.slice (some ⟨g,0,none⟩) n cap) n xs) (hx:xs=nCells T X n):NHas w g n T X/\base<=g:=by
 obtain⟨hl,h⟩:=h;rcases h with ⟨e,_⟩|⟨g',cap',cur,e,hb,hblk,hnc,hcm,hsz,ht⟩
 ·cases e
 ·simp only[Value.slice.injEq,Option.some.injEq,Addr.mk.injEq,and_true,true_and]at e
  obtain⟨rfl,rfl⟩:=e;refine⟨⟨cur,hblk,by have:=Nat.mul_le_mul_right 2 hnc;omega,fun j hj=>?_⟩,hb⟩;have h3:(cur.toList.take (n*2))[j]?=some (nr T X j):=by rw[ht,hx,nCells_at hj]
  rw[List.getElem?_take,if_pos hj]at h3;simpa using h3
theorem owns_cap {w:World} {base g n cap:Nat} {e:TypeId} {size:Nat} {xs:List Value} (h:w.ownsRow base e size (.slice (some ⟨g,0,none⟩) n cap) n xs):n<=cap:=by
 rcases h.2 with ⟨e,_⟩|⟨g',cap',cur,e,_,_,h2,_⟩
 ·cases e
 ·simp only[Value.slice.injEq,Option.some.injEq,Addr.mk.injEq,and_true,true_and]at e
  obtain⟨rfl,rfl⟩:=e;exact h2
theorem empty_ownsN (w:World):(w.alloc (.cells #[] 47)).ownsRow w.heap.size 47 2 (.slice (some ⟨w.heap.size,0,none⟩) 0 0) 0 []:=by
 have:=World.ownsRow_lit (base:=w.heap.size) (e:=47) (size:=2) w #[] 0 (by simp) (by simp) (by simp);simpa using this
theorem NRow.drop {w:World} {b o n k:Nat} {T:Nat->Int} {X:Nat->ByteArray} (h:NRow w (some ⟨b,o,none⟩) n T X) (hk:k<=n):NRow w (some ⟨b,o+k*2,none⟩) (n-k) (fun j=>T (k+j)) (fun j=>X (k+j)):=fun j hj=>by
 obtain⟨b',o',e,c0,c1⟩:=h (k+j) (by omega);simp only[Option.some.injEq,Addr.mk.injEq,and_true]at e;obtain⟨rfl,rfl⟩:=e;exact⟨b,o+k*2,rfl,by rw[show o+k*2+j*2=o+(k+j)*2 by omega];exact c0,by rw[show o+k*2+j*2+1=o+(k+j)*2+1 by omega];exact c1⟩
end
section
open Go.RowKit Go.Maps
attribute [local go_sem ↓] Go.wp_at_zero Go.wp_at_succ
theorem eqlN_some (a:Addr) (n cap:Nat) (w:World):(binOp BinOp.eql 24 (.slice (some a) n cap) (.slice none 0 0)).run Tryz.prog w=.ok (.bool false) w:=by kernel_rfl
theorem eqlN_none (n cap:Nat) (w:World):(binOp BinOp.eql 24 (.slice none n cap) (.slice none 0 0)).run Tryz.prog w=.ok (.bool true) w:=by kernel_rfl
theorem nr_one (T:Nat->Int) (X:Nat->ByteArray) (j:Nat):(nr T X j).oneCell'=true:=by
 unfold nr
 split<;>rfl
theorem one9N (T:Nat->Int) (X:Nat->ByteArray) (m:Nat):∀ u∈gCells (nr T X) m,u.oneCell'=true:=fun u hu=>by
 simp only[gCells,List.mem_map,List.mem_range]at hu;obtain⟨j,_,rfl⟩:=hu;exact nr_one T X j
set_option maxRecDepth 100000 in
set_option maxHeartbeats 2000000 in
theorem cloneE_pos (b o n cap:Nat) (T:Nat->Int) (X:Nat->ByteArray) (hn:n<=1048576) (hpos:0<n) (w:World) (hr:GRow w (some ⟨b,o,none⟩) (n*2) (nr T X)):
  Calls Tryz.prog 70 #[.slice (some ⟨b,o,none⟩) n cap] w fun e w'=>∃ ao' cap',e=.returned (.slice ao' n cap')/\GOwn w' w.heap.size 47 2 ao' n cap' (nr T X)/\Below w.heap.size w w':=by
 obtain⟨i0,hi0,hz0,hz1,hz2⟩:=info_parts Tryz.infoEntry;have hnil:=fun W=>eqlN_some ⟨b,o,none⟩ n cap W
 go_enter Tryz.func70,Tryz.ntmps70
 go_wp2_with (at_builtin;refine wpList_append_lies _ rfl _ _ _ rfl w.heap.size 47 i0 _ 2 24 Tryz.underlying24 hi0 hz0 hz1 hz2 rfl (by omega) (.slice (some ⟨w.heap.size,0,none⟩) 0 0) 0 [] rfl (empty_ownsG w 47 2) ⟨b,o,none⟩ n cap (gCells (nr T X) (n*2)) rfl (gCells_len _ _) (GRow.news (hr.next ((Below.refl _ _).alloc nl _))) (one9N T X _) hpos (by unfold maxLen;omega) (by omega) (by simp) (w.heap.size+1) (by simp) ?_;intro g cap' w1 hown1 hgrow hat hlt)
 simp only[Nat.zero_add,List.nil_append]at hown1 ⊢;go_wp2;go_ret;refine⟨_,_,rfl,hown1,?_⟩;refine Below.grown ((Below.refl _ _).alloc nl _) hgrow (by simp) ?_;intro k hk;simp[Value.ownBlock]at hk;omega
set_option maxRecDepth 100000 in
set_option maxHeartbeats 2000000 in
theorem cloneE_zero (ao:Option Addr) (cap:Nat) (T:Nat->Int) (X:Nat->ByteArray) (w:World):
  Calls Tryz.prog 70 #[.slice ao 0 cap] w fun e w'=>∃ ao' cap',e=.returned (.slice ao' 0 cap')/\GOwn w' w.heap.size 47 2 ao' 0 cap' (nr T X)/\Below w.heap.size w w':=by
 have hsc:∀ (a:Addr) (w:World),(storeCells a []).run Tryz.prog w=.ok () w:=fun _ _=>rfl
 cases ao with
 | none=>
  have hnil:=fun W=>eqlN_none 0 cap W
  go_enter Tryz.func70,Tryz.ntmps70;go_wp2;go_ret;exact⟨_,_,rfl,GOwn.nil _ _ _ _ _,by first|exact Below.refl _ _|exact (Below.refl _ _).alloc nl _⟩
 | some a=>
  have hnil:=fun W=>eqlN_some a 0 cap W
  go_enter Tryz.func70,Tryz.ntmps70;go_wp2;go_ret;exact⟨_,_,rfl,GOwn.empty _ _ _ _,by first|exact Below.refl _ _|exact (Below.refl _ _).alloc nl _⟩
theorem cloneE_any (ao:Option Addr) (n cap:Nat) (T:Nat->Int) (X:Nat->ByteArray) (hn:n<=1048576) (w:World) (hr:GRow w ao (n*2) (nr T X)):
  Calls Tryz.prog 70 #[.slice ao n cap] w fun e w'=>∃ ao' cap',e=.returned (.slice ao' n cap')/\GOwn w' w.heap.size 47 2 ao' n cap' (nr T X)/\Below w.heap.size w w':=by
 by_cases h:0<n
 ·obtain⟨b,o,e,_⟩:=hr (by omega)
  subst e;exact cloneE_pos b o n cap T X hn h w hr
 ·obtain rfl:n=0:=by omega
  exact cloneE_zero ao cap T X w
theorem Tryz.info9I:(Tryz.prog.info? 2).map (fun i=>(i.zero,i.size,i.bytes))=some (some (.int .i64 0),1,8):=by kernel_rfl
theorem eqlI_some (a:Addr) (n cap:Nat) (w:World):(binOp BinOp.eql 25 (.slice (some a) n cap) (.slice none 0 0)).run Tryz.prog w=.ok (.bool false) w:=by kernel_rfl
theorem eqlI_none (n cap:Nat) (w:World):(binOp BinOp.eql 25 (.slice none n cap) (.slice none 0 0)).run Tryz.prog w=.ok (.bool true) w:=by kernel_rfl
theorem one9I (P:Nat->Int) (m:Nat):∀ u∈gCells (fun j=>Value.int .i64 (P j)) m,u.oneCell'=true:=fun u hu=>by
 simp only[gCells,List.mem_map,List.mem_range]at hu;obtain⟨j,_,rfl⟩:=hu;rfl
set_option maxRecDepth 100000 in
set_option maxHeartbeats 2000000 in
theorem cloneI_pos (b o n cap:Nat) (P:Nat->Int) (hn:n<=1048576) (hpos:0<n) (w:World) (hr:GRow w (some ⟨b,o,none⟩) (n*1) (fun j=>Value.int .i64 (P j))):
  Calls Tryz.prog 71 #[.slice (some ⟨b,o,none⟩) n cap] w fun e w'=>∃ ao' cap',e=.returned (.slice ao' n cap')/\GOwn w' w.heap.size 2 1 ao' n cap' (fun j=>Value.int .i64 (P j))/\Below w.heap.size w w':=by
 obtain⟨i0,hi0,hz0,hz1,hz2⟩:=info_parts Tryz.info9I;have hnil:=fun W=>eqlI_some ⟨b,o,none⟩ n cap W
 go_enter Tryz.func71,Tryz.ntmps71
 go_wp2_with (at_builtin;refine wpList_append_lies _ rfl _ _ _ rfl w.heap.size 2 i0 _ 1 8 Tryz.underlying25 hi0 hz0 hz1 hz2 rfl (by omega) (.slice (some ⟨w.heap.size,0,none⟩) 0 0) 0 [] rfl (empty_ownsG w 2 1) ⟨b,o,none⟩ n cap (gCells (fun j=>Value.int .i64 (P j)) (n*1)) rfl (gCells_len _ _) (GRow.news (hr.next ((Below.refl _ _).alloc nl _))) (one9I P _) hpos (by unfold maxLen;omega) (by omega) (by simp) (w.heap.size+1) (by simp) ?_;intro g cap' w1 hown1 hgrow hat hlt)
 simp only[Nat.zero_add,List.nil_append]at hown1 ⊢;go_wp2;go_ret;refine⟨_,_,rfl,hown1,?_⟩;refine Below.grown ((Below.refl _ _).alloc nl _) hgrow (by simp) ?_;intro k hk;simp[Value.ownBlock]at hk;omega
set_option maxRecDepth 100000 in
set_option maxHeartbeats 2000000 in
theorem cloneI_zero (ao:Option Addr) (cap:Nat) (P:Nat->Int) (w:World):
  Calls Tryz.prog 71 #[.slice ao 0 cap] w fun e w'=>∃ ao' cap',e=.returned (.slice ao' 0 cap')/\GOwn w' w.heap.size 2 1 ao' 0 cap' (fun j=>Value.int .i64 (P j))/\Below w.heap.size w w':=by
 have hsc:∀ (a:Addr) (w:World),(storeCells a []).run Tryz.prog w=.ok () w:=fun _ _=>rfl
 cases ao with
 | none=>
  have hnil:=fun W=>eqlI_none 0 cap W
  go_enter Tryz.func71,Tryz.ntmps71;go_wp2;go_ret;exact⟨_,_,rfl,GOwn.nil _ _ _ _ _,by first|exact Below.refl _ _|exact (Below.refl _ _).alloc nl _⟩
 | some a=>
  have hnil:=fun W=>eqlI_some a 0 cap W
  go_enter Tryz.func71,Tryz.ntmps71;go_wp2;go_ret;exact⟨_,_,rfl,GOwn.empty _ _ _ _,by first|exact Below.refl _ _|exact (Below.refl _ _).alloc nl _⟩
theorem cloneI_any (ao:Option Addr) (n cap:Nat) (P:Nat->Int) (hn:n<=1048576) (w:World) (hr:GRow w ao (n*1) (fun j=>Value.int .i64 (P j))):
  Calls Tryz.prog 71 #[.slice ao n cap] w fun e w'=>∃ ao' cap',e=.returned (.slice ao' n cap')/\GOwn w' w.heap.size 2 1 ao' n cap' (fun j=>Value.int .i64 (P j))/\Below w.heap.size w w':=by
 by_cases h:0<n
 ·obtain⟨b,o,e,_⟩:=hr (by omega)
  subst e;exact cloneI_pos b o n cap P hn h w hr
 ·obtain rfl:n=0:=by omega
  exact cloneI_zero ao cap P w
end
end Go.Proofs.YtbabakgjkloabaaGreatDoor
