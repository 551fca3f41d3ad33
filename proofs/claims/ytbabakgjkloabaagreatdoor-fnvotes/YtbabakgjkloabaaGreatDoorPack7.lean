/-
  Helpers: LogP, NdA, LogU, NdP, EntO, MrgG, CloN, CloI.
-/
import Derived.Test.YtbabakgjkloabaaGreatDoorPack2
import Derived.Test.YtbabakgjkloabaaGreatDoorPack6
import Derived.Lib.AppendZeros
set_option linter.unusedVariables false
set_option linter.unusedSimpArgs false
set_option maxRecDepth 100000
set_option maxHeartbeats 16000000
namespace Go.Proofs.YtbabakgjkloabaaGreatDoor
section
open Go.RowKit
attribute [local go_sem ↓] Go.wp_at_zero Go.wp_at_succ
def O8(x:ByteArray):Bool:=(cW (rJ x.data.toList)).isSome
def dJ(T:Nat->Int)(X:Nat->ByteArray)(k:Nat):Bool:=O8 (X k)&&(decide (1<=T k)&&(decide (T k<=100000)&&decide (k=0\/T (k-1)<=T k)))
def eD(n:Nat)(T:Nat->Int)(X:Nat->ByteArray):Bool:=decide (n<=200)&&(List.range n).all (dJ T X)
theorem uZ{n:Nat}{T:Nat->Int}{X:Nat->ByteArray}(h:n<=200)(ha:∀ k,k<n->dJ T X k=true):eD n T X=true:=by
 unfold eD;simp only[h,decide_true,Bool.true_and,List.all_eq_true,List.mem_range];exact ha
theorem vF{n:Nat}{T:Nat->Int}{X:Nat->ByteArray}(h:200<n):eD n T X=false:=by
 unfold eD;rw[decide_eq_false (by omega),Bool.false_and]
theorem zK{n:Nat}{T:Nat->Int}{X:Nat->ByteArray}{k:Nat}(hk:k<n)(ha:dJ T X k=false):eD n T X=false:=by
 unfold eD;rw[Bool.and_eq_false_iff]
 right
 rw[List.all_eq_false];exact⟨k,List.mem_range.2 hk,by rw[ha];simp⟩
theorem xB{n:Nat}{T:Nat->Int}{X:Nat->ByteArray}(h:eD n T X=true):n<=200/\∀ k,k<n->dJ T X k=true:=by
 unfold eD at h;rw[Bool.and_eq_true,List.all_eq_true]at h;exact⟨of_decide_eq_true h.1,fun k hk=>h.2 k (List.mem_range.2 hk)⟩
theorem sG{T:Nat->Int}{X:Nat->ByteArray}{k:Nat}(h1:O8 (X k)=true)(h2:1<=T k)(h3:T k<=100000)(h4:k=0\/T (k-1)<=T k):dJ T X k=true:=by
 unfold dJ;rw[h1,decide_eq_true h2,decide_eq_true h3,decide_eq_true h4];rfl
theorem vG{T:Nat->Int}{X:Nat->ByteArray}{k:Nat}(h:dJ T X k=true):O8 (X k)=true/\1<=T k/\T k<=100000/\(k=0\/T (k-1)<=T k):=by
 unfold dJ at h;rw[Bool.and_eq_true,Bool.and_eq_true,Bool.and_eq_true]at h;exact⟨h.1,of_decide_eq_true h.2.1,of_decide_eq_true h.2.2.1,of_decide_eq_true h.2.2.2⟩
theorem kV{T:Nat->Int}{X:Nat->ByteArray}{k:Nat}(h:¬ (O8 (X k)=true/\1<=T k/\T k<=100000/\(k=0\/T (k-1)<=T k))):dJ T X k=false:=by
 cases e:dJ T X k
 ·rfl
 ·exact absurd (vG e) h
theorem xC(t:Int)(x:ByteArray)(hx:x.size<=1048576)(w:World):
  Calls Tryz.prog 84 #[.agg #[.int .i64 t,.string x]] w fun e w'=>e=.returned (.bool (O8 x&&dD t 1 100000))/\Below w.heap.size w w':=by
 have hR:=fun W=>pE x hx W
 unfold O8;generalize cW (rJ x.data.toList)=R at hR ⊢;have HR:Hid (∀ W,Calls Tryz.prog 61 #[.string x] W fun e w'=>sO W w' e R):=hR;clear hR;go_enter Tryz.func84,Tryz.ntmps84
 go_wp2_with fail
 refine (HR.out _).mono ?_;rintro e w1 ⟨ao,cap,rfl,_,hb⟩;have c0:w1.cell? ⟨w.heap.size,0,none⟩=some (.int .i64 t):=by rw[hb.cell (by simp)];simp[go_sem]
 have hA:Below w.heap.size w w1:=((Below.refl _ _).alloc nl _).trans (hb.mono (by simp));clear hb;have hA2:=fun o=>hA.alloc hA.size o
 have c0':∀ o,(w1.alloc o).cell? ⟨w.heap.size,0,none⟩=some (.int .i64 t):=fun o=>by rw[((Below.refl w1.heap.size w1).alloc nl o).cell (dB c0)];exact c0
 clear c0;cases hb2:R.isSome
 ·go_wp2
  go_ret;exact⟨by rw[hb2];simp,hA2 _⟩
 ·go_wp2_with (go_at_call 40;refine (cP _ _ _ _).mono ?_;rintro e w2 ⟨rfl,hq⟩;have hq':=hq.symm;subst hq';clear hq)
  go_ret;exact⟨by rw[hb2];simp,hA2 _⟩
theorem fO(ao:Option Addr)(n cap:Nat)(T:Nat->Int)(X:Nat->ByteArray)(hn:n<=9223372036854775807)(hX:∀ k,k<n->(X k).size<=1048576)(w:World)(hr:NRow w ao n T X):
  Calls Tryz.prog 42 #[.slice ao n cap] w fun e w'=>e=.returned (.bool (eD n T X))/\Below w.heap.size w w':=by
 by_cases h200:200<n
 ·rw[vF h200]
  have h2':(200:Int)<(n:Int):=by omega
  go_enter Tryz.func42,Tryz.ntmps42;go_wp2;go_ret;exact⟨rfl,Below.refl _ _⟩
 have h2':¬ (200:Int)<(n:Int):=by omega
 have HB:Hid ((∀ k,k<n->dJ T X k=true)->eD n T X=true):=fun h=>uZ (by omega) h
 have HN:Hid (∀ k,k<n->dJ T X k=false->eD n T X=false):=fun k h1 h2=>zK h1 h2
 generalize eD n T X=B at HB HN ⊢;go_enter Tryz.func42,Tryz.ntmps42;go_wp2
 go_loopw [3] (fun i wr=>∃ k:Nat,k<=n/\i=.int .i64 k/\(∀ j,j<k->dJ T X j=true)/\Below w.heap.size w wr) (fun i _=>n-(intOf i).toNat)
 case atStart=>exact⟨0,Nat.zero_le _,rfl,fun j hj=>by omega,Below.refl _ _⟩
 case round=>
  obtain⟨k,hk,rfl,hat,hbel⟩:=hrel
  by_cases hlt:k<n
  rotate_left
  ·have hkn:k=n:=by omega
   subst hkn;go_wp2;go_ret;exact⟨by rw[HB.out hat];rfl,hbel⟩
  obtain⟨b,o,hao,c0,c1⟩:=(hr.below hbel nl) k hlt;subst hao;have hk1:(0:Int)<=(k:Int):=by omega
  have hk2:(k:Int)<(n:Int):=by omega
  -- ROUND
  have hEn:=fun W=>xC (T k) (X k) (hX k hlt) W
  obtain⟨g,hg⟩:∃ g,(O8 (X k)&&dD (T k) 1 100000)=g:=⟨_,rfl⟩
  rw[hg]at hEn;cases g
  ·have HE:∀ W,Calls Tryz.prog 84 #[.agg #[.int .i64 (T k),.string (X k)]] W fun e w'=>e=.returned (.bool false)/\Below W.heap.size W w':=hEn
   have hno:dJ T X k=false:=kV (fun h=>by simp[dD,h.1,h.2.1,h.2.2.1]at hg);clear hEn hg
   go_wp2_with fail
   have hS:(fun w'=>w'.cell? ⟨b,o+k*2,none⟩=some (.int .i64 (T k))/\w'.cell? ⟨b,o+k*2+1,none⟩=some (.string (X k))) wr.drew:=⟨c0,c1⟩
   refine wp_region_held_drew (S:=fun w'=>w'.cell? ⟨b,o+k*2,none⟩=some (.int .i64 (T k))/\w'.cell? ⟨b,o+k*2+1,none⟩=some (.string (X k))) (by kernel_rfl) hS (fun hS=>?_);refine tK 0 (some 13) (.slice (some ⟨b,o,none⟩) n cap) rfl rfl hS (fun w hSw=>by go_split_ands;go_simp<;>first|omega|(rw[IntKind.wrap_i64];omega)|(intro h;exfalso;omega)) ?_;simp only[pS];refine tK 1 (some 14) (.int .i64 (k:Int)) rfl rfl hS (fun w hSw=>by go_split_ands;go_simp<;>first|omega|(rw[IntKind.wrap_i64];omega)|(intro h;exfalso;omega)) ?_;simp only[pS];refine tK 2 (some 15) (.pointer (some ⟨b,o+k*2,none⟩)) rfl rfl hS (fun w hSw=>by go_split_ands;go_simp<;>first|omega|(rw[IntKind.wrap_i64];omega)|(intro h;exfalso;omega)) ?_;simp only[pS];refine tK 3 (some 16) (.agg #[.int .i64 (T k),.string (X k)]) rfl rfl hS (fun w hSw=>by go_split_ands;go_simp<;>first|omega|(rw[IntKind.wrap_i64];omega)|(intro h;exfalso;omega)) ?_;simp only[pS];refine cZ 4 _ rfl (by kernel_rfl) (by rfl) ?_;go_simp;refine (HE _).mono ?_;rintro e w1 ⟨rfl,hb1⟩;have hS1:(fun w'=>w'.cell? ⟨b,o+k*2,none⟩=some (.int .i64 (T k))/\w'.cell? ⟨b,o+k*2+1,none⟩=some (.string (X k))) w1:=⟨aB hb1 nl hS.1,aB hb1 nl hS.2⟩
   refine⟨hS1,?_⟩;refine tK 5 (some 18) (.bool true) rfl rfl hS1 (fun w hSw=>by go_split_ands;go_simp<;>first|omega|(rw[IntKind.wrap_i64];omega)|(intro h;exfalso;omega)) ?_;simp only[pS];refine tK 6 (some 19) (.bool true) rfl rfl hS1 (fun w hSw=>by go_split_ands;go_simp<;>first|omega|(rw[IntKind.wrap_i64];omega)|(intro h;exfalso;omega)) ?_;simp only[pS];refine sK 7 (some 20) rfl rfl hS1 ?_;simp only[pS];refine sK 8 (some 21) rfl rfl hS1 ?_;simp only[pS];refine sK 9 (some 22) rfl rfl hS1 ?_;simp only[pS];refine sK 10 (some 23) rfl rfl hS1 ?_;simp only[pS];refine sK 11 (some 24) rfl rfl hS1 ?_;simp only[pS];refine sK 12 (some 25) rfl rfl hS1 ?_;simp only[pS];refine sK 13 (some 26) rfl rfl hS1 ?_;simp only[pS];refine sK 14 (some 27) rfl rfl hS1 ?_;simp only[pS];refine sK 15 (some 28) rfl rfl hS1 ?_;simp only[pS];refine sK 16 (some 29) rfl rfl hS1 ?_;simp only[pS];refine sK 17 (some 30) rfl rfl hS1 ?_;simp only[pS];refine sK 18 (some 31) rfl rfl hS1 ?_;simp only[pS];refine sK 19 (some 32) rfl rfl hS1 ?_;simp only[pS];refine sK 20 (some 33) rfl rfl hS1 ?_;simp only[pS];refine sK 21 (some 34) rfl rfl hS1 ?_;simp only[pS];refine sK 22 (some 35) rfl rfl hS1 ?_;simp only[pS];refine tK 23 (some 36) (.bool true) rfl rfl hS1 (fun w hSw=>by go_split_ands;go_simp<;>first|omega|(rw[IntKind.wrap_i64];omega)|(intro h;exfalso;omega)) ?_;simp only[pS];refine wpAnyH_done (by kernel_rfl) ?_ _;go_wp2;go_ret;exact⟨by rw[HN.out k hlt hno];rfl,aF hbel.drew nl hb1⟩
  have HE:∀ W,Calls Tryz.prog 84 #[.agg #[.int .i64 (T k),.string (X k)]] W fun e w'=>e=.returned (.bool true)/\Below W.heap.size W w':=hEn
  have hyes:O8 (X k)=true/\1<=T k/\T k<=100000:=by
   simp only[dD,Bool.and_eq_true,decide_eq_true_eq]at hg;exact⟨hg.1,hg.2.1,hg.2.2⟩
  clear hEn hg
  by_cases h0:k=0
  ·have hyes':dJ T X k=true:=sG hyes.1 hyes.2.1 hyes.2.2 (Or.inl h0)
   have hk3:¬ (0:Int)<(k:Int):=by omega
   clear h0
   go_wp2_with fail
   have hS:(fun w'=>w'.cell? ⟨b,o+k*2,none⟩=some (.int .i64 (T k))/\w'.cell? ⟨b,o+k*2+1,none⟩=some (.string (X k))) wr.drew:=⟨c0,c1⟩
   refine wp_region_held_drew (S:=fun w'=>w'.cell? ⟨b,o+k*2,none⟩=some (.int .i64 (T k))/\w'.cell? ⟨b,o+k*2+1,none⟩=some (.string (X k))) (by kernel_rfl) hS (fun hS=>?_);refine tK 0 (some 13) (.slice (some ⟨b,o,none⟩) n cap) rfl rfl hS (fun w hSw=>by go_split_ands;go_simp<;>first|omega|(rw[IntKind.wrap_i64];omega)|(intro h;exfalso;omega)) ?_;simp only[pS];refine tK 1 (some 14) (.int .i64 (k:Int)) rfl rfl hS (fun w hSw=>by go_split_ands;go_simp<;>first|omega|(rw[IntKind.wrap_i64];omega)|(intro h;exfalso;omega)) ?_;simp only[pS];refine tK 2 (some 15) (.pointer (some ⟨b,o+k*2,none⟩)) rfl rfl hS (fun w hSw=>by go_split_ands;go_simp<;>first|omega|(rw[IntKind.wrap_i64];omega)|(intro h;exfalso;omega)) ?_;simp only[pS];refine tK 3 (some 16) (.agg #[.int .i64 (T k),.string (X k)]) rfl rfl hS (fun w hSw=>by go_split_ands;go_simp<;>first|omega|(rw[IntKind.wrap_i64];omega)|(intro h;exfalso;omega)) ?_;simp only[pS];refine cZ 4 _ rfl (by kernel_rfl) (by rfl) ?_;go_simp;refine (HE _).mono ?_;rintro e w1 ⟨rfl,hb1⟩;have hS1:(fun w'=>w'.cell? ⟨b,o+k*2,none⟩=some (.int .i64 (T k))/\w'.cell? ⟨b,o+k*2+1,none⟩=some (.string (X k))) w1:=⟨aB hb1 nl hS.1,aB hb1 nl hS.2⟩
   refine⟨hS1,?_⟩;refine tK 5 (some 18) (.bool false) rfl rfl hS1 (fun w hSw=>by go_split_ands;go_simp<;>first|omega|(rw[IntKind.wrap_i64];omega)|(intro h;exfalso;omega)) ?_;simp only[pS];refine tK 6 (some 19) (.bool false) rfl rfl hS1 (fun w hSw=>by go_split_ands;go_simp<;>first|omega|(rw[IntKind.wrap_i64];omega)|(intro h;exfalso;omega)) ?_;simp only[pS];refine tK 7 (some 20) (.int .i64 (k:Int)) rfl rfl hS1 (fun w hSw=>by go_split_ands;go_simp<;>first|omega|(rw[IntKind.wrap_i64];omega)|(intro h;exfalso;omega)) ?_;simp only[pS];refine tK 8 (some 21) (.bool false) rfl rfl hS1 (fun w hSw=>by go_split_ands;go_simp<;>first|omega|(rw[IntKind.wrap_i64];omega)|(intro h;exfalso;omega)) ?_;simp only[pS];refine tK 9 (some 22) (.bool false) rfl rfl hS1 (fun w hSw=>by go_split_ands;go_simp<;>first|omega|(rw[IntKind.wrap_i64];omega)|(intro h;exfalso;omega)) ?_;simp only[pS];refine sK 10 (some 23) rfl rfl hS1 ?_;simp only[pS];refine sK 11 (some 24) rfl rfl hS1 ?_;simp only[pS];refine sK 12 (some 25) rfl rfl hS1 ?_;simp only[pS];refine sK 13 (some 26) rfl rfl hS1 ?_;simp only[pS];refine sK 14 (some 27) rfl rfl hS1 ?_;simp only[pS];refine sK 15 (some 28) rfl rfl hS1 ?_;simp only[pS];refine sK 16 (some 29) rfl rfl hS1 ?_;simp only[pS];refine sK 17 (some 30) rfl rfl hS1 ?_;simp only[pS];refine sK 18 (some 31) rfl rfl hS1 ?_;simp only[pS];refine sK 19 (some 32) rfl rfl hS1 ?_;simp only[pS];refine sK 20 (some 33) rfl rfl hS1 ?_;simp only[pS];refine sK 21 (some 34) rfl rfl hS1 ?_;simp only[pS];refine tK 22 (some 35) (.bool false) rfl rfl hS1 (fun w hSw=>by go_split_ands;go_simp<;>first|omega|(rw[IntKind.wrap_i64];omega)|(intro h;exfalso;omega)) ?_;simp only[pS];refine tK 23 (some 36) (.bool false) rfl rfl hS1 (fun w hSw=>by go_split_ands;go_simp<;>first|omega|(rw[IntKind.wrap_i64];omega)|(intro h;exfalso;omega)) ?_;simp only[pS];refine wpAnyH_done (by kernel_rfl) ?_ _;go_wp2
   go_roundw
   case rel=>
    refine⟨k+1,by omega,by go_num,fun j hj=>?_,aF hbel.drew nl hb1⟩
    by_cases e:j=k
    ·subst e;exact hyes'
    ·exact hat j (by omega)
   case measure=>simp[intOf];omega
  have hk3:(0:Int)<(k:Int):=by omega
  have hk4:(0:Int)<=(k:Int)-1:=by omega
  have hk5:(k:Int)-1<(n:Int):=by omega
  have hk6:((k:Int)-1).toNat=k-1:=by omega
  obtain⟨b',o',hao',d0,d1⟩:=(hr.below hbel nl) (k-1) (by omega);simp only[Option.some.injEq,Addr.mk.injEq,and_true]at hao';obtain⟨rfl,rfl⟩:=hao'
  by_cases hT:T k<T (k-1)
  ·have hno:dJ T X k=false:=kV (fun h=>by omega)
   go_wp2_with fail
   have hS:(fun w'=>w'.cell? ⟨b,o+k*2,none⟩=some (.int .i64 (T k))/\w'.cell? ⟨b,o+k*2+1,none⟩=some (.string (X k))/\w'.cell? ⟨b,o+(k-1)*2,none⟩=some (.int .i64 (T (k-1)))) wr.drew:=⟨c0,c1,d0⟩
   refine wp_region_held_drew (S:=fun w'=>w'.cell? ⟨b,o+k*2,none⟩=some (.int .i64 (T k))/\w'.cell? ⟨b,o+k*2+1,none⟩=some (.string (X k))/\w'.cell? ⟨b,o+(k-1)*2,none⟩=some (.int .i64 (T (k-1)))) (by kernel_rfl) hS (fun hS=>?_);refine tK 0 (some 13) (.slice (some ⟨b,o,none⟩) n cap) rfl rfl hS (fun w hSw=>by go_split_ands;go_simp<;>first|omega|(rw[IntKind.wrap_i64];omega)|(intro h;exfalso;omega)) ?_;simp only[pS];refine tK 1 (some 14) (.int .i64 (k:Int)) rfl rfl hS (fun w hSw=>by go_split_ands;go_simp<;>first|omega|(rw[IntKind.wrap_i64];omega)|(intro h;exfalso;omega)) ?_;simp only[pS];refine tK 2 (some 15) (.pointer (some ⟨b,o+k*2,none⟩)) rfl rfl hS (fun w hSw=>by go_split_ands;go_simp<;>first|omega|(rw[IntKind.wrap_i64];omega)|(intro h;exfalso;omega)) ?_;simp only[pS];refine tK 3 (some 16) (.agg #[.int .i64 (T k),.string (X k)]) rfl rfl hS (fun w hSw=>by go_split_ands;go_simp<;>first|omega|(rw[IntKind.wrap_i64];omega)|(intro h;exfalso;omega)) ?_;simp only[pS];refine cZ 4 _ rfl (by kernel_rfl) (by rfl) ?_;go_simp;refine (HE _).mono ?_;rintro e w1 ⟨rfl,hb1⟩;have hS1:(fun w'=>w'.cell? ⟨b,o+k*2,none⟩=some (.int .i64 (T k))/\w'.cell? ⟨b,o+k*2+1,none⟩=some (.string (X k))/\w'.cell? ⟨b,o+(k-1)*2,none⟩=some (.int .i64 (T (k-1)))) w1:=⟨aB hb1 nl hS.1,aB hb1 nl hS.2.1,aB hb1 nl hS.2.2⟩
   refine⟨hS1,?_⟩;refine tK 5 (some 18) (.bool false) rfl rfl hS1 (fun w hSw=>by go_split_ands;go_simp<;>first|omega|(rw[IntKind.wrap_i64];omega)|(intro h;exfalso;omega)) ?_;simp only[pS];refine tK 6 (some 19) (.bool false) rfl rfl hS1 (fun w hSw=>by go_split_ands;go_simp<;>first|omega|(rw[IntKind.wrap_i64];omega)|(intro h;exfalso;omega)) ?_;simp only[pS];refine tK 7 (some 20) (.int .i64 (k:Int)) rfl rfl hS1 (fun w hSw=>by go_split_ands;go_simp<;>first|omega|(rw[IntKind.wrap_i64];omega)|(intro h;exfalso;omega)) ?_;simp only[pS];refine tK 8 (some 21) (.bool true) rfl rfl hS1 (fun w hSw=>by go_split_ands;go_simp<;>first|omega|(rw[IntKind.wrap_i64];omega)|(intro h;exfalso;omega)) ?_;simp only[pS];refine tK 9 (some 22) (.bool true) rfl rfl hS1 (fun w hSw=>by go_split_ands;go_simp<;>first|omega|(rw[IntKind.wrap_i64];omega)|(intro h;exfalso;omega)) ?_;simp only[pS];refine tK 10 (some 23) (.slice (some ⟨b,o,none⟩) n cap) rfl rfl hS1 (fun w hSw=>by go_split_ands;go_simp<;>first|omega|(rw[IntKind.wrap_i64];omega)|(intro h;exfalso;omega)) ?_;simp only[pS];refine tK 11 (some 24) (.int .i64 (k:Int)) rfl rfl hS1 (fun w hSw=>by go_split_ands;go_simp<;>first|omega|(rw[IntKind.wrap_i64];omega)|(intro h;exfalso;omega)) ?_;simp only[pS];refine tK 12 (some 25) (.pointer (some ⟨b,o+k*2,none⟩)) rfl rfl hS1 (fun w hSw=>by go_split_ands;go_simp<;>first|omega|(rw[IntKind.wrap_i64];omega)|(intro h;exfalso;omega)) ?_;simp only[pS];refine tK 13 (some 26) (.pointer (some ⟨b,o+k*2,none⟩)) rfl rfl hS1 (fun w hSw=>by go_split_ands;go_simp<;>first|omega|(rw[IntKind.wrap_i64];omega)|(intro h;exfalso;omega)) ?_;simp only[pS];refine tK 14 (some 27) (.int .i64 (T k)) rfl rfl hS1 (fun w hSw=>by go_split_ands;go_simp<;>first|omega|(rw[IntKind.wrap_i64];omega)|(intro h;exfalso;omega)) ?_;simp only[pS];refine tK 15 (some 28) (.slice (some ⟨b,o,none⟩) n cap) rfl rfl hS1 (fun w hSw=>by go_split_ands;go_simp<;>first|omega|(rw[IntKind.wrap_i64];omega)|(intro h;exfalso;omega)) ?_;simp only[pS];refine tK 16 (some 29) (.int .i64 (k:Int)) rfl rfl hS1 (fun w hSw=>by go_split_ands;go_simp<;>first|omega|(rw[IntKind.wrap_i64];omega)|(intro h;exfalso;omega)) ?_;simp only[pS];refine tK 17 (some 30) (.int .i64 ((k:Int)-1)) rfl rfl hS1 (fun w hSw=>by go_split_ands;go_simp<;>first|omega|(rw[IntKind.wrap_i64];omega)|(intro h;exfalso;omega)) ?_;simp only[pS];refine tK 18 (some 31) (.pointer (some ⟨b,o+(k-1)*2,none⟩)) rfl rfl hS1 (fun w hSw=>by go_split_ands;go_simp<;>first|omega|(rw[IntKind.wrap_i64];omega)|(intro h;exfalso;omega)) ?_;simp only[pS];refine tK 19 (some 32) (.pointer (some ⟨b,o+(k-1)*2,none⟩)) rfl rfl hS1 (fun w hSw=>by go_split_ands;go_simp<;>first|omega|(rw[IntKind.wrap_i64];omega)|(intro h;exfalso;omega)) ?_;simp only[pS];refine tK 20 (some 33) (.int .i64 (T (k-1))) rfl rfl hS1 (fun w hSw=>by go_split_ands;go_simp<;>first|omega|(rw[IntKind.wrap_i64];omega)|(intro h;exfalso;omega)) ?_;simp only[pS];refine tK 21 (some 34) (.bool true) rfl rfl hS1 (fun w hSw=>by go_split_ands;go_simp<;>first|omega|(rw[IntKind.wrap_i64];omega)|(intro h;exfalso;omega)) ?_;simp only[pS];refine tK 22 (some 35) (.bool true) rfl rfl hS1 (fun w hSw=>by go_split_ands;go_simp<;>first|omega|(rw[IntKind.wrap_i64];omega)|(intro h;exfalso;omega)) ?_;simp only[pS];refine tK 23 (some 36) (.bool true) rfl rfl hS1 (fun w hSw=>by go_split_ands;go_simp<;>first|omega|(rw[IntKind.wrap_i64];omega)|(intro h;exfalso;omega)) ?_;simp only[pS];refine wpAnyH_done (by kernel_rfl) ?_ _;go_wp2;go_ret;exact⟨by rw[HN.out k hlt hno];rfl,aF hbel.drew nl hb1⟩
  ·have hyes':dJ T X k=true:=sG hyes.1 hyes.2.1 hyes.2.2 (Or.inr (by omega))
   go_wp2_with fail
   have hS:(fun w'=>w'.cell? ⟨b,o+k*2,none⟩=some (.int .i64 (T k))/\w'.cell? ⟨b,o+k*2+1,none⟩=some (.string (X k))/\w'.cell? ⟨b,o+(k-1)*2,none⟩=some (.int .i64 (T (k-1)))) wr.drew:=⟨c0,c1,d0⟩
   refine wp_region_held_drew (S:=fun w'=>w'.cell? ⟨b,o+k*2,none⟩=some (.int .i64 (T k))/\w'.cell? ⟨b,o+k*2+1,none⟩=some (.string (X k))/\w'.cell? ⟨b,o+(k-1)*2,none⟩=some (.int .i64 (T (k-1)))) (by kernel_rfl) hS (fun hS=>?_);refine tK 0 (some 13) (.slice (some ⟨b,o,none⟩) n cap) rfl rfl hS (fun w hSw=>by go_split_ands;go_simp<;>first|omega|(rw[IntKind.wrap_i64];omega)|(intro h;exfalso;omega)) ?_;simp only[pS];refine tK 1 (some 14) (.int .i64 (k:Int)) rfl rfl hS (fun w hSw=>by go_split_ands;go_simp<;>first|omega|(rw[IntKind.wrap_i64];omega)|(intro h;exfalso;omega)) ?_;simp only[pS];refine tK 2 (some 15) (.pointer (some ⟨b,o+k*2,none⟩)) rfl rfl hS (fun w hSw=>by go_split_ands;go_simp<;>first|omega|(rw[IntKind.wrap_i64];omega)|(intro h;exfalso;omega)) ?_;simp only[pS];refine tK 3 (some 16) (.agg #[.int .i64 (T k),.string (X k)]) rfl rfl hS (fun w hSw=>by go_split_ands;go_simp<;>first|omega|(rw[IntKind.wrap_i64];omega)|(intro h;exfalso;omega)) ?_;simp only[pS];refine cZ 4 _ rfl (by kernel_rfl) (by rfl) ?_;go_simp;refine (HE _).mono ?_;rintro e w1 ⟨rfl,hb1⟩;have hS1:(fun w'=>w'.cell? ⟨b,o+k*2,none⟩=some (.int .i64 (T k))/\w'.cell? ⟨b,o+k*2+1,none⟩=some (.string (X k))/\w'.cell? ⟨b,o+(k-1)*2,none⟩=some (.int .i64 (T (k-1)))) w1:=⟨aB hb1 nl hS.1,aB hb1 nl hS.2.1,aB hb1 nl hS.2.2⟩
   refine⟨hS1,?_⟩;refine tK 5 (some 18) (.bool false) rfl rfl hS1 (fun w hSw=>by go_split_ands;go_simp<;>first|omega|(rw[IntKind.wrap_i64];omega)|(intro h;exfalso;omega)) ?_;simp only[pS];refine tK 6 (some 19) (.bool false) rfl rfl hS1 (fun w hSw=>by go_split_ands;go_simp<;>first|omega|(rw[IntKind.wrap_i64];omega)|(intro h;exfalso;omega)) ?_;simp only[pS];refine tK 7 (some 20) (.int .i64 (k:Int)) rfl rfl hS1 (fun w hSw=>by go_split_ands;go_simp<;>first|omega|(rw[IntKind.wrap_i64];omega)|(intro h;exfalso;omega)) ?_;simp only[pS];refine tK 8 (some 21) (.bool true) rfl rfl hS1 (fun w hSw=>by go_split_ands;go_simp<;>first|omega|(rw[IntKind.wrap_i64];omega)|(intro h;exfalso;omega)) ?_;simp only[pS];refine tK 9 (some 22) (.bool true) rfl rfl hS1 (fun w hSw=>by go_split_ands;go_simp<;>first|omega|(rw[IntKind.wrap_i64];omega)|(intro h;exfalso;omega)) ?_;simp only[pS];refine tK 10 (some 23) (.slice (some ⟨b,o,none⟩) n cap) rfl rfl hS1 (fun w hSw=>by go_split_ands;go_simp<;>first|omega|(rw[IntKind.wrap_i64];omega)|(intro h;exfalso;omega)) ?_;simp only[pS];refine tK 11 (some 24) (.int .i64 (k:Int)) rfl rfl hS1 (fun w hSw=>by go_split_ands;go_simp<;>first|omega|(rw[IntKind.wrap_i64];omega)|(intro h;exfalso;omega)) ?_;simp only[pS];refine tK 12 (some 25) (.pointer (some ⟨b,o+k*2,none⟩)) rfl rfl hS1 (fun w hSw=>by go_split_ands;go_simp<;>first|omega|(rw[IntKind.wrap_i64];omega)|(intro h;exfalso;omega)) ?_;simp only[pS];refine tK 13 (some 26) (.pointer (some ⟨b,o+k*2,none⟩)) rfl rfl hS1 (fun w hSw=>by go_split_ands;go_simp<;>first|omega|(rw[IntKind.wrap_i64];omega)|(intro h;exfalso;omega)) ?_;simp only[pS];refine tK 14 (some 27) (.int .i64 (T k)) rfl rfl hS1 (fun w hSw=>by go_split_ands;go_simp<;>first|omega|(rw[IntKind.wrap_i64];omega)|(intro h;exfalso;omega)) ?_;simp only[pS];refine tK 15 (some 28) (.slice (some ⟨b,o,none⟩) n cap) rfl rfl hS1 (fun w hSw=>by go_split_ands;go_simp<;>first|omega|(rw[IntKind.wrap_i64];omega)|(intro h;exfalso;omega)) ?_;simp only[pS];refine tK 16 (some 29) (.int .i64 (k:Int)) rfl rfl hS1 (fun w hSw=>by go_split_ands;go_simp<;>first|omega|(rw[IntKind.wrap_i64];omega)|(intro h;exfalso;omega)) ?_;simp only[pS];refine tK 17 (some 30) (.int .i64 ((k:Int)-1)) rfl rfl hS1 (fun w hSw=>by go_split_ands;go_simp<;>first|omega|(rw[IntKind.wrap_i64];omega)|(intro h;exfalso;omega)) ?_;simp only[pS];refine tK 18 (some 31) (.pointer (some ⟨b,o+(k-1)*2,none⟩)) rfl rfl hS1 (fun w hSw=>by go_split_ands;go_simp<;>first|omega|(rw[IntKind.wrap_i64];omega)|(intro h;exfalso;omega)) ?_;simp only[pS];refine tK 19 (some 32) (.pointer (some ⟨b,o+(k-1)*2,none⟩)) rfl rfl hS1 (fun w hSw=>by go_split_ands;go_simp<;>first|omega|(rw[IntKind.wrap_i64];omega)|(intro h;exfalso;omega)) ?_;simp only[pS];refine tK 20 (some 33) (.int .i64 (T (k-1))) rfl rfl hS1 (fun w hSw=>by go_split_ands;go_simp<;>first|omega|(rw[IntKind.wrap_i64];omega)|(intro h;exfalso;omega)) ?_;simp only[pS];refine tK 21 (some 34) (.bool false) rfl rfl hS1 (fun w hSw=>by go_split_ands;go_simp<;>first|omega|(rw[IntKind.wrap_i64];omega)|(intro h;exfalso;omega)) ?_;simp only[pS];refine tK 22 (some 35) (.bool false) rfl rfl hS1 (fun w hSw=>by go_split_ands;go_simp<;>first|omega|(rw[IntKind.wrap_i64];omega)|(intro h;exfalso;omega)) ?_;simp only[pS];refine tK 23 (some 36) (.bool false) rfl rfl hS1 (fun w hSw=>by go_split_ands;go_simp<;>first|omega|(rw[IntKind.wrap_i64];omega)|(intro h;exfalso;omega)) ?_;simp only[pS];refine wpAnyH_done (by kernel_rfl) ?_ _;go_wp2
   go_roundw
   case rel=>
    refine⟨k+1,by omega,by go_num,fun j hj=>?_,aF hbel.drew nl hb1⟩
    by_cases e:j=k
    ·subst e;exact hyes'
    ·exact hat j (by omega)
   case measure=>simp[intOf];omega
theorem sH(ao:Option Addr)(n cap:Nat)(T:Nat->Int)(X:Nat->ByteArray)(a:Addr)(hn:n<=9223372036854775807)(hX:∀ k,k<n->(X k).size<=1048576)(w:World)(hr:NRow w ao n T X)
  (hV:w.cell? ⟨0,0,none⟩=some (.iface 199 (.pointer (some a)))):
  Calls Tryz.prog 110 #[.slice ao n cap] w fun e w'=>(eD n T X=true/\e=.returned .nilIface\/eD n T X=false/\∃ m,e=.returned (BF m a))/\Below w.heap.size w w':=by
 by_cases h200:200<n
 ·have h2':(200:Int)<(n:Int):=by omega
  go_enter Tryz.func110,Tryz.ntmps110;go_wp2;go_ret;exact⟨Or.inr ⟨vF h200,_,rfl⟩,Below.refl _ _⟩
 have h2':¬ (200:Int)<(n:Int):=by omega
 have HB:Hid ((∀ k,k<n->dJ T X k=true)->eD n T X=true):=fun h=>uZ (by omega) h
 have HN:Hid (∀ k,k<n->dJ T X k=false->eD n T X=false):=fun k h1 h2=>zK h1 h2
 generalize eD n T X=B at HB HN ⊢;go_enter Tryz.func110,Tryz.ntmps110;go_wp2
 go_loopw [3,16] (fun l i wr=>∃ k:Nat,k<=n/\i=.int .i64 k/\l=.int .i64 (if k=0 then 1 else T (k-1))/\(∀ j,j<k->dJ T X j=true)/\Below w.heap.size w wr) (fun _ i _=>n-(intOf i).toNat)
 case atStart=>exact⟨0,Nat.zero_le _,rfl,rfl,fun j hj=>by omega,Below.refl _ _⟩
 case round=>
  obtain⟨k,hk,rfl,rfl,hat,hbel⟩:=hrel
  by_cases hlt:k<n
  rotate_left
  ·have hkn:k=n:=by omega
   subst hkn;generalize (if k=0 then (1:Int) else T (k-1))=l;go_wp2;go_ret;exact⟨Or.inl ⟨HB.out hat,rfl⟩,hbel⟩
  obtain⟨b,o,hao,c0,c1⟩:=(hr.below hbel nl) k hlt;subst hao;have hk1:(0:Int)<=(k:Int):=by omega
  have hk2:(k:Int)<(n:Int):=by omega
  have hR:=fun W=>uK (X k) (hX k hlt) W
  obtain⟨R,hRe⟩:∃ R,cW (rJ (X k).data.toList)=R:=⟨_,rfl⟩
  rw[hRe]at hR;have hiC:O8 (X k)=R.isSome:=by unfold O8;rw[hRe]
  have HR:Hid (∀ W,Calls Tryz.prog 58 #[.string (X k)] W fun e w'=>sO W w' e R):=hR;clear hR hRe;have hg0:wr.cell? ⟨0,0,none⟩=some (.iface 199 (.pointer (some a))):=by rw[hbel.cell (dB hV)];exact hV
  obtain⟨l,hl⟩:∃ l,(if k=0 then 1 else T (k-1))=l:=⟨_,rfl⟩
  have hl2:∀ t,(1<=t/\(k=0\/T (k-1)<=t))↔l<=t:=by
   intro t;subst hl
   by_cases h0:k=0
   ·simp[h0]
   ·have:=(vG (hat (k-1) (by omega))).2.1
    simp only[h0,if_false,false_or];omega
  rw[hl];clear hl
  go_wp2_with fail
  refine (HR.out _).mono ?_;rintro e w1 ⟨ao',cap',rfl,_,hb1⟩;have hA:Below w.heap.size w w1:=(hbel.alloc hbel.size _).trans (hb1.mono (by have:=hbel.size;simp;omega));have c0':w1.cell? ⟨wr.heap.size,0,none⟩=some (.int .i64 (T k)):=by rw[hb1.cell (by simp)];simp[go_sem]
  have g0':w1.cell? ⟨0,0,none⟩=some (.iface 199 (.pointer (some a))):=by rw[hA.cell (dB hV)];exact hV
  have hA2:=fun o=>hA.alloc hA.size o
  have d0:∀ o,(w1.alloc o).cell? ⟨wr.heap.size,0,none⟩=some (.int .i64 (T k)):=fun o=>by rw[((Below.refl w1.heap.size w1).alloc nl o).cell (dB c0')];exact c0'
  have g0:∀ o,(w1.alloc o).cell? ⟨0,0,none⟩=some (.iface 199 (.pointer (some a))):=fun o=>by rw[((Below.refl w1.heap.size w1).alloc nl o).cell (dB g0')];exact g0'
  clear c0' g0' hb1 c0 c1 hg0;cases hq:R.isSome
  ·have hno:dJ T X k=false:=kV (fun h=>by rw[hiC,hq]at h;exact absurd h.1 (by simp))
   go_wp2;go_ret;exact⟨Or.inr ⟨HN.out k hlt hno,_,rfl⟩,hA2 _⟩
  by_cases h3:T k<l
  ·have hno:dJ T X k=false:=kV (fun h=>by have:=(hl2 (T k)).1 ⟨h.2.1,h.2.2.2⟩;omega)
   go_wp2;go_ret;exact⟨Or.inr ⟨HN.out k hlt hno,_,rfl⟩,hA2 _⟩
  by_cases h4:(100000:Int)<T k
  ·have hno:dJ T X k=false:=kV (fun h=>by omega)
   go_wp2;go_ret;exact⟨Or.inr ⟨HN.out k hlt hno,_,rfl⟩,hA2 _⟩
  have hyes:dJ T X k=true:=by
   have:=(hl2 (T k)).2 (by omega);exact sG (by rw[hiC,hq]) this.1 (by omega) this.2
  go_wp2
  go_roundw
  case rel=>
   refine⟨k+1,by omega,by go_num,by simp,fun j hj=>?_,hA2 _⟩
   by_cases e:j=k
   ·subst e;exact hyes
   ·exact hat j (by omega)
  case measure=>simp[intOf];omega
theorem iF(ao:Option Addr)(n cap:Nat)(T:Nat->Int)(X:Nat->ByteArray)(a:Addr)(hn:n<=9223372036854775807)(hX:∀ k,k<n->(X k).size<=1048576)(w:World)(hr:NRow w ao n T X)
  (hV:w.cell? ⟨0,0,none⟩=some (.iface 199 (.pointer (some a)))):
  Calls Tryz.prog 85 #[.slice ao n cap] w fun e w'=>e=.returned (.bool (eD n T X))/\Below w.heap.size w w':=by
 have HF:Hid (∀ W,NRow W ao n T X->W.cell? ⟨0,0,none⟩=some (.iface 199 (.pointer (some a)))->Calls Tryz.prog 110 #[.slice ao n cap] W fun e w'=>(eD n T X=true/\e=.returned .nilIface\/eD n T X=false/\∃ m,e=.returned (BF m a))/\Below W.heap.size W w'):=fun W h1 h2=>sH ao n cap T X a hn hX W h1 h2
 generalize eD n T X=B at HF ⊢;go_enter Tryz.func85,Tryz.ntmps85
 go_wp2_with fail
 have hS:(fun w':World=>w'.cell? ⟨0,0,none⟩=some (.iface 199 (.pointer (some a)))) w.drew:=hV;refine wp_region_held_drew (S:=fun w'=>w'.cell? ⟨0,0,none⟩=some (.iface 199 (.pointer (some a)))) (by kernel_rfl) hS (fun hS=>?_);refine tK 0 (some 3) (.slice ao n cap) rfl rfl hS (fun w hSw=>by go_simp) ?_;simp only[pS];refine tK 2 (some 5) (.iface 199 (.pointer (some a))) rfl rfl hS (fun w hSw=>by have hSw':w.cell? ⟨0,0,none⟩=some (.iface 199 (.pointer (some a))):=hSw;go_simp) ?_;simp only[pS];refine cZ 1 _ rfl (by kernel_rfl) (by rfl) ?_;go_simp;refine (HF.out _ (hr.below (Below.refl w.heap.size w).drew nl) hV).mono ?_;rintro e w1 ⟨hE,hb1⟩;have hS1:w1.cell? ⟨0,0,none⟩=some (.iface 199 (.pointer (some a))):=aB hb1 nl hS;have hA:=aF (Below.refl w.heap.size w).drew nl hb1;rcases hE with ⟨rfl,rfl⟩|⟨rfl,m,rfl⟩
 ·refine⟨hS1,?_⟩
  refine cZ 3 _ rfl (by kernel_rfl) (by rfl) ?_;go_simp;refine (U9 a _).mono ?_;rintro e w2 ⟨rfl,rfl⟩;refine⟨hS1,?_⟩;refine tK 4 (some 7) (.bool true) rfl rfl hS1 (fun w hSw=>by go_simp) ?_;simp only[pS];refine tK 5 (some 2) (.bool true) rfl rfl hS1 (fun w hSw=>by go_simp) ?_;simp only[pS];refine wpAnyH_done (by kernel_rfl) ?_ _;go_wp2;go_ret;exact⟨rfl,hA⟩
 ·refine⟨hS1,?_⟩
  refine cZ 3 _ rfl (by kernel_rfl) (by rfl) ?_;go_simp;refine (V0 m a _).mono ?_;rintro e w2 ⟨rfl,hb2⟩;have hS2:w2.cell? ⟨0,0,none⟩=some (.iface 199 (.pointer (some a))):=aB hb2 nl hS1;refine⟨hS2,?_⟩;refine tK 4 (some 7) (.bool false) rfl rfl hS2 (fun w hSw=>by go_simp) ?_;simp only[pS];refine tK 5 (some 2) (.bool false) rfl rfl hS2 (fun w hSw=>by go_simp) ?_;simp only[pS];refine wpAnyH_done (by kernel_rfl) ?_ _;go_wp2;go_ret;exact⟨rfl,aF hA nl hb2⟩
end
section
open Go Go.RowKit
structure En where
 t:Int
 x:ByteArray
def FO:En:=⟨0,ByteArray.empty⟩
structure Nd where
 id:Int
 peers:Int
 term:Int
 vote:Int
 log:List En
 role:Int
 commit:Int
 votes:List Int
 next:List Int
 mat:List Int
structure Ms where
 kind:Int
 term:Int
 frm:Int
 to:Int
 index:Int
 lterm:Int
 ents:List En
 commit:Int
 yes:Bool
def cL(l:List En)(k:Nat):Int:=(l.getD k FO).t
def cS(l:List En)(k:Nat):ByteArray:=(l.getD k FO).x
def aT(l:List Int)(k:Nat):Int:=l.getD k 0
def cU(l:List Int):List Value:=l.map (Value.int .i64)
def dZ:List En->List Value
 | []=>[]
 | e :: r=>.int .i64 e.t :: .string e.x :: dZ r
theorem cO(l:List Int):(cU l).length=l.length:=by simp[cU]
theorem dE:∀ l:List En,(dZ l).length=l.length*2
 | []=>rfl
 | e :: r=>by simp[dZ,dE r];omega
theorem fZ{l:List Int}{k:Nat}(h:k<l.length):(cU l)[k]?=some (.int .i64 (aT l k)):=by
 simp[cU,aT,h]
theorem lO:∀ {l:List En} {k:Nat},k<l.length->(dZ l)[k*2]?=some (.int .i64 (cL l k))/\(dZ l)[k*2+1]?=some (.string (cS l k))
 | [],k,h=>by simp at h
 | e :: r,0,h=>by simp[dZ,cL,cS]
 | e :: r,k+1,h=>by
  have:=lO (l:=r) (k:=k) (by simpa using h);have e1:(k+1)*2=k*2+1+1:=by omega
  rw[e1];simp only[dZ,List.getElem?_cons_succ];simpa[cL,cS] using this
def LRow(w:World)(t:TypeId)(ao:Option Addr)(cs:List Value):Prop:=cs≠[]->∃ b o,ao=some ⟨b,o,none⟩/\aG w b t/\∀ j v,cs[j]?=some v->w.cell? ⟨b,o+j,none⟩=some v
theorem ER{w:World}{b:Nat}{t:TypeId}(h:aG w b t):b<w.heap.size:=by
 obtain⟨cs,z,h⟩:=h;exact (Array.getElem?_eq_some_iff.1 h).1
theorem LRow.of_block{w w':World}{t:TypeId}{ao:Option Addr}{cs:List Value}(h:LRow w t ao cs)(e:∀ b,aG w b t->w'.heap[b]?=w.heap[b]?):LRow w' t ao cs:=fun hc=>by
 obtain⟨b,o,e1,ht,h2⟩:=h hc;refine⟨b,o,e1,?_,fun j v hj=>by rw[World.cell?_of_block (w:=w) (e b ht)];exact h2 j v hj⟩;have e2:=e b ht;obtain⟨cs',z,h3⟩:=ht;exact⟨cs',z,e2.trans h3⟩
theorem LRow.next{w w':World}{t:TypeId}{ao:Option Addr}{cs:List Value}(h:LRow w t ao cs)(hb:Below w.heap.size w w'):LRow w' t ao cs:=h.of_block fun b ht=>hb.block b (ER ht)
theorem LRow.gr{w w':World}{t u:TypeId}{ao:Option Addr}{cs:List Value}{row:Option Nat}(h:LRow w t ao cs)(hg:w.grownBy w' row)(hx:∀ x,row=some x->aG w x u)(hn:t≠u):LRow w' t ao cs:=h.of_block fun b ht=>hg.block b (ER ht) fun q=>jK ht (hx b q.symm) hn rfl
theorem LRow.nil{w:World}{t:TypeId}{ao:Option Addr}:LRow w t ao []:=fun h=>absurd rfl h
theorem LRow.i{w:World}{ao:Option Addr}{l:List Int}{t:TypeId}(h:LRow w t ao (cU l)):IRow w ao l.length (aT l):=fun k hk=>by
 obtain⟨b,o,e,_,h2⟩:=h (fun q=>by have:=cO l;rw[q]at this;simp at this;omega);exact⟨b,o,e,h2 k _ (fZ hk)⟩
theorem LRow.n{w:World}{ao:Option Addr}{l:List En}{t:TypeId}(h:LRow w t ao (dZ l)):NRow w ao l.length (cL l) (cS l):=fun k hk=>by
 obtain⟨b,o,e,_,h2⟩:=h (fun q=>by have:=dE l;rw[q]at this;simp at this;omega);refine⟨b,o,e,?_⟩;have:=lO hk;have h3:=h2 _ _ this.1;have h4:=h2 _ _ this.2
 first
 | exact⟨h3,h4⟩
 | exact⟨h3,by rw[<-Nat.add_assoc]at h4;exact h4⟩
structure NdS where
 lo:Option Addr
 lc:Nat
 vo:Option Addr
 vc:Nat
 no:Option Addr
 nc:Nat
 mo:Option Addr
 mc:Nat
abbrev aJ(n:Nd)(s:NdS):List Value:=[.int .i64 n.id,.int .i64 n.peers,.int .i64 n.term,.int .i64 n.vote,.slice s.lo n.log.length s.lc,.int .i64 n.role,.int .i64 n.commit,.slice s.vo n.votes.length s.vc,.slice s.no n.next.length s.nc,.slice s.mo n.mat.length s.mc]
abbrev aX(n:Nd)(s:NdS):Value:=.agg #[.int .i64 n.id,.int .i64 n.peers,.int .i64 n.term,.int .i64 n.vote,.slice s.lo n.log.length s.lc,.int .i64 n.role,.int .i64 n.commit,.slice s.vo n.votes.length s.vc,.slice s.no n.next.length s.nc,.slice s.mo n.mat.length s.mc]
structure NdM(w:World)(n:Nd)(s:NdS):Prop where
 l:LRow w 47 s.lo (dZ n.log)
 v:LRow w 2 s.vo (cU n.votes)
 x:LRow w 2 s.no (cU n.next)
 m:LRow w 2 s.mo (cU n.mat)
theorem NdM.next{w w':World}{n:Nd}{s:NdS}(h:NdM w n s)(hb:Below w.heap.size w w'):NdM w' n s:=⟨h.l.next hb,h.v.next hb,h.x.next hb,h.m.next hb⟩
theorem NdM.gr{w w':World}{n:Nd}{s:NdS}{row:Option Nat}{u:TypeId}(h:NdM w n s)(hg:w.grownBy w' row)(hx:∀ x,row=some x->aG w x u)(h1:47≠u)(h2:2≠u):NdM w' n s:=⟨h.l.gr hg hx h1,h.v.gr hg hx h2,h.x.gr hg hx h2,h.m.gr hg hx h2⟩
structure NdZ(n:Nd)(s:NdS):Prop where
 l:n.log.length<=1048576
 v:n.votes.length<=1048576
 x:n.next.length<=1048576
 m:n.mat.length<=1048576
 lc:n.log.length<=s.lc
 vc:n.votes.length<=s.vc
 xc:n.next.length<=s.nc
 mc:n.mat.length<=s.mc
 tx:∀ k,k<n.log.length->(cS n.log k).size<=1048576
theorem bH(w:World)(l:List Value)(t:TypeId):VHas (w.alloc (.cells l.toArray t)) w.heap.size t l.length (lf l):=
 ⟨_,Go.Deep.blk_alloc_new _ _,by simp,fun j hj=>by simp[lf,hj]⟩
abbrev NdB(w:World)(b:Nat)(n:Nd)(s:NdS):Prop:=VHas w b 27 10 (lf (aJ n s))
theorem aH(w:World)(n:Nd)(s:NdS):NdB (w.alloc (.cells (aJ n s).toArray 27)) w.heap.size n s:=bH w (aJ n s) 27
theorem bD{o:Oper}{ev:Operand->Value}{x:Operand}{b:Nat}{W:World}{n:Nd}{s:NdS}(ho:o.op=.load 27 x)(hx:ev x=.pointer (some ⟨b,0,none⟩))(h:NdB W b n s):(execOp ev o).run Tryz.prog W=.ok (.value (aX n s)) W:=by
 obtain⟨c0,c1,c2,c3,c4,c5,c6,c7,c8,c9⟩:=h.c10;simp[lf]at c0 c1 c2 c3 c4 c5 c6 c7 c8 c9;unfold execOp;simp[ho,hx,go_sem,c0,c1,c2,c3,c4,c5,c6,c7,c8,c9]
abbrev aU:Nd:=⟨0,0,0,0,[],0,0,[],[],[]⟩
abbrev aP:NdS:=⟨none,0,none,0,none,0,none,0⟩
theorem bA{W:World}{b:Nat}{n:Nd}{s:NdS}(h:NdB W b n s):∀ x,some b=some x->aG W x 27:=fun x e=>by cases e;exact VHas.typed h
theorem aV{w W W':World}{b:Nat}(h:RB w W)(hg:W.grownBy W' (some b))(hb:w.heap.size<=b):RB w W':=pY h hg (fun x e=>by cases e;exact hb)
theorem GOwn.cap{w:World}{base:Nat}{t:TypeId}{size:Nat}{ao:Option Addr}{n cap:Nat}{f:Nat->Value}(h:GOwn w base t size ao n cap f):n<=cap:=by
 rcases h.2 with ⟨h2,h3⟩|⟨g',cap',cur,h2,_,_,h3,_⟩
 ·omega
 ·simp at h2;omega
theorem GOwn.lrow{w:World}{base:Nat}{t:TypeId}{size:Nat}{ao:Option Addr}{n cap:Nat}{cs:List Value}(h:GOwn w base t size ao n cap (lf cs))(hl:cs.length=n*size):LRow w t ao cs:=fun hc=>by
 have hp:0<n*size:=by
  rw[<-hl];exact List.length_pos_iff.2 hc
 obtain⟨g,e,hv⟩:=h.trow hp;refine⟨g,0,e,hv.typed,fun j v hj=>?_⟩
 have hlt:j<cs.length:=by
  rcases Nat.lt_or_ge j cs.length with q|q
  ·exact q
  ·rw[List.getElem?_eq_none q]at hj;cases hj
 have:=hv.cell (j:=j) (by omega);rw[Nat.zero_add,this];simp[lf,hj]
theorem LRow.g{w:World}{t:TypeId}{ao:Option Addr}{cs:List Value}(h:LRow w t ao cs){m:Nat}(hm:cs.length=m):GRow w ao m (lf cs):=fun hp=>by
 obtain⟨b,o,e,_,hc⟩:=h (fun q=>by rw[q]at hm;simp at hm;omega);refine⟨b,o,e,fun j hj=>?_⟩;have hlt:j<cs.length:=by omega
 have:cs[j]?=some cs[j]:=by simp[hlt]
 rw[hc j _ this];simp[lf,this]
end
section
open Go.RowKit
attribute [local go_sem ↓] Go.wp_at_zero Go.wp_at_succ
def dR(n:Nat)(T:Nat->Int):Int:=if n=0 then 0 else T (n-1)
theorem fH(ao:Option Addr)(n cap:Nat)(T:Nat->Int)(X:Nat->ByteArray)(hn:n<=9223372036854775807)(w:World)(hr:NRow w ao n T X):
  Calls Tryz.prog 86 #[.slice ao n cap] w fun e w'=>e=.returned (.int .i64 (dR n T))/\w'=w:=by
 unfold dR
 by_cases h0:n=0
 ·subst h0
  rw[if_pos rfl];go_enter Tryz.func86,Tryz.ntmps86;go_wp2;go_ret;exact⟨rfl,rfl⟩
 ·rw[if_neg h0]
  obtain⟨b,o,rfl,c0,c1⟩:=hr (n-1) (by omega);have hi:((n:Int)-1).toNat=n-1:=by omega
  have hn1:¬ ((n:Int)=0):=by omega
  have hn2:(0:Int)<=(n:Int)-1:=by omega
  have hn3:(n:Int)-1<(n:Int):=by omega
  go_enter Tryz.func86,Tryz.ntmps86;go_wp2;go_ret;exact⟨rfl,rfl⟩
end
section
open Go Go.RowKit
def fJ(l:List En):Bool:=eD l.length (cL l) (cS l)
def bM(l:List En):Int:=dR l.length (cL l)
def bB(p:Int):Int->List Int->Bool
 | _,[]=>true
 | least,v :: r=>decide (least<=v)&&(decide (0<=v/\v<p)&&bB p (v+1) r)
def cA(e:Int)(nx mt:List Int)(i:Nat):Bool:=decide (1<=aT nx i/\aT nx i<=e+1/\0<=aT mt i/\aT mt i<=e)
def fK(n:Nd):Bool:=decide ((n.next.length:Int)=n.peers/\(n.mat.length:Int)=n.peers)&&(List.range n.next.length).all (cA n.log.length n.next n.mat)
def cB(n:Nd):Bool:=
 if n.role=3 then bB n.peers 0 n.votes&&fK n
 else if n.role=1 then n.votes.isEmpty&&(n.next.isEmpty&&n.mat.isEmpty)
 else if n.role=2 then bB n.peers 0 n.votes&&(n.next.isEmpty&&n.mat.isEmpty)
 else false
def dS(p x:Int):Bool:=decide (0<=x/\x<p)
def bY(n:Nd):Bool:=decide (1<=n.peers/\n.peers<=5)&&(dS n.peers n.id&&(decide (0<=n.term/\n.term<=100000)&&((n.vote == -1||dS n.peers n.vote)&&((fJ n.log&&decide (bM n.log<=n.term))&&(decide (0<=n.commit/\n.commit<=n.log.length)&&cB n)))))
structure GlV(w:World)(aL aE aO:Addr):Prop where
 l:w.cell? ⟨0,0,none⟩=some (.iface 199 (.pointer (some aL)))
theorem GlV.next{w w':World}{aL aE aO:Addr}(h:GlV w aL aE aO)(hb:Below w.heap.size w w'):GlV w' aL aE aO:=⟨aB hb nl h.l⟩
end
section
open Go.RowKit
def bT(T:Nat->Int)(X:Nat->ByteArray)(m:Nat):List Value:=(List.range (m*2)).map (nr T X)
theorem dC(T:Nat->Int)(X:Nat->ByteArray)(m:Nat):(bT T X m).length=m*2:=by simp[bT]
theorem jC{T:Nat->Int}{X:Nat->ByteArray}{m j:Nat}(h:j<m*2):(bT T X m)[j]?=some (nr T X j):=by simp[bT,h]
theorem hZ(T:Nat->Int)(X:Nat->ByteArray)(m:Nat):∀ u∈bT T X m,u.oneCell'=true:=fun u hu=>by
 simp only[bT,List.mem_map,List.mem_range]at hu;obtain⟨j,_,rfl⟩:=hu;unfold nr
 split<;>rfl
theorem lR{T U:Nat->Int}{X Y:Nat->ByteArray}{a b:Nat}(T':Nat->Int)(X':Nat->ByteArray)(h1:∀ j,j<a->T' j=T j/\X' j=X j)(h2:∀ j,j<b->T' (a+j)=U j/\X' (a+j)=Y j):
  bT T X a++bT U Y b=bT T' X' (a+b):=by
 apply List.ext_getElem?;intro j
 by_cases hj:j<a*2
 ·rw[List.getElem?_append_left (by rw[dC];exact hj),jC hj,jC (by omega)]
  congr 1
  exact X6 (n:=a) (fun k hk=>(h1 k hk).1.symm) (fun k hk=>(h1 k hk).2.symm) j hj
 ·rw[List.getElem?_append_right (by rw[dC];omega),dC]
  by_cases hj2:j<(a+b)*2
  ·rw[jC (by omega),jC hj2]
   congr 1
   have e:j / 2=a+(j-a*2) / 2:=by omega
   have e2:j%2=(j-a*2)%2:=by omega
   have:=h2 ((j-a*2) / 2) (by omega);unfold nr;rw[e,e2,this.1,this.2]
  ·rw[List.getElem?_eq_none (by rw[dC];omega),List.getElem?_eq_none (by rw[dC];omega)]
theorem NRow.news{w:World}{b o n:Nat}{T:Nat->Int}{X:Nat->ByteArray}(hr:NRow w (some ⟨b,o,none⟩) n T X):∀ j u,(bT T X n)[j]?=some u->w.cell? ((⟨b,o,none⟩:Addr).add j)=some u:=fun j u hu=>by
 have hj:j<n*2:=by
  rcases Nat.lt_or_ge j (n*2) with h|h
  ·exact h
  ·rw[List.getElem?_eq_none (by rw[dC];exact h)]at hu;cases hu
 rw[jC hj]at hu;obtain rfl:=oI hu;obtain⟨b',o',e,c0,c1⟩:=hr (j / 2) (by omega);simp only[Option.some.injEq,Addr.mk.injEq,and_true]at e;obtain⟨rfl,rfl⟩:=e;rw[Addr.add_mid];unfold nr
 split
 ·rename_i h2
  have:o+j=o+j / 2*2:=by omega
  rw[this];exact c0
 ·rename_i h2
  have:o+j=o+j / 2*2+1:=by omega
  rw[this];exact c1
theorem dQ{w:World}{base g n cap:Nat}{T:Nat->Int}{X:Nat->ByteArray}{xs:List Value}(h:w.ownsRow base 47 2 (.slice (some ⟨g,0,none⟩) n cap) n xs)(hx:xs=bT T X n):DP w g n T X/\base<=g:=by
 obtain⟨hl,h⟩:=h;rcases h with ⟨e,_⟩|⟨g',cap',cur,e,hb,hblk,hnc,hcm,hsz,ht⟩
 ·cases e
 ·simp only[Value.slice.injEq,Option.some.injEq,Addr.mk.injEq,and_true,true_and]at e
  obtain⟨rfl,rfl⟩:=e;refine⟨⟨cur,hblk,by have:=Nat.mul_le_mul_right 2 hnc;omega,fun j hj=>?_⟩,hb⟩;have h3:(cur.toList.take (n*2))[j]?=some (nr T X j):=by rw[ht,hx,jC hj]
  rw[List.getElem?_take,if_pos hj]at h3;simpa using h3
theorem mW{w:World}{base g n cap:Nat}{e:TypeId}{size:Nat}{xs:List Value}(h:w.ownsRow base e size (.slice (some ⟨g,0,none⟩) n cap) n xs):n<=cap:=by
 rcases h.2 with ⟨e,_⟩|⟨g',cap',cur,e,_,_,h2,_⟩
 ·cases e
 ·simp only[Value.slice.injEq,Option.some.injEq,Addr.mk.injEq,and_true,true_and]at e
  obtain⟨rfl,rfl⟩:=e;exact h2
theorem fA(w:World):(w.alloc (.cells #[] 47)).ownsRow w.heap.size 47 2 (.slice (some ⟨w.heap.size,0,none⟩) 0 0) 0 []:=by
 have:=World.ownsRow_lit (base:=w.heap.size) (e:=47) (size:=2) w #[] 0 (by simp) (by simp) (by simp);simpa using this
def NOwn(w w':World)(ao:Option Addr)(n:Nat)(T:Nat->Int)(X:Nat->ByteArray):Prop:=0<n->∃ g,ao=some ⟨g,0,none⟩/\w.heap.size<=g/\DP w' g n T X
theorem NOwn.row{w w':World}{ao:Option Addr}{n:Nat}{T:Nat->Int}{X:Nat->ByteArray}(h:NOwn w w' ao n T X):NRow w' ao n T X:=fun k hk=>by
 obtain⟨g,rfl,_,hN⟩:=h (by omega);exact pB hN k hk
theorem NRow.drop{w:World}{b o n k:Nat}{T:Nat->Int}{X:Nat->ByteArray}(h:NRow w (some ⟨b,o,none⟩) n T X)(hk:k<=n):NRow w (some ⟨b,o+k*2,none⟩) (n-k) (fun j=>T (k+j)) (fun j=>X (k+j)):=fun j hj=>by
 obtain⟨b',o',e,c0,c1⟩:=h (k+j) (by omega);simp only[Option.some.injEq,Addr.mk.injEq,and_true]at e;obtain⟨rfl,rfl⟩:=e;exact⟨b,o+k*2,rfl,by rw[show o+k*2+j*2=o+(k+j)*2 by omega];exact c0,by rw[show o+k*2+j*2+1=o+(k+j)*2+1 by omega];exact c1⟩
end
section
open Go.RowKit Go.Maps
attribute [local go_sem ↓] Go.wp_at_zero Go.wp_at_succ
theorem nR(a:Addr)(n cap:Nat)(w:World):(binOp BinOp.eql 24 (.slice (some a) n cap) (.slice none 0 0)).run Tryz.prog w=.ok (.bool false) w:=by kernel_rfl
theorem wT(n cap:Nat)(w:World):(binOp BinOp.eql 24 (.slice none n cap) (.slice none 0 0)).run Tryz.prog w=.ok (.bool true) w:=by kernel_rfl
theorem J6(b o n cap:Nat)(T:Nat->Int)(X:Nat->ByteArray)(hn:n<=1048576)(hpos:0<n)(w:World)(hr:NRow w (some ⟨b,o,none⟩) n T X):
  Calls Tryz.prog 70 #[.slice (some ⟨b,o,none⟩) n cap] w fun e w'=>∃ ao' cap',e=.returned (.slice ao' n cap')/\n<=cap'/\NOwn w w' ao' n T X/\Below w.heap.size w w':=by
 obtain⟨i0,hi0,hz0,hz1,hz2⟩:=info_parts Tryz.infoEntry;have hnil:=fun W=>nR ⟨b,o,none⟩ n cap W
 go_enter Tryz.func70,Tryz.ntmps70
 go_wp2_with (at_builtin;refine wpList_append_lies _ rfl _ _ _ rfl w.heap.size 47 i0 _ 2 24 Tryz.underlying24 hi0 hz0 hz1 hz2 rfl (by omega) (.slice (some ⟨w.heap.size,0,none⟩) 0 0) 0 [] rfl (fA w) ⟨b,o,none⟩ n cap (bT T X n) rfl (dC _ _ _) (NRow.news (hr.alloc _)) (hZ _ _ _) hpos (by unfold maxLen;omega) (by omega) (by simp) (w.heap.size+1) (by simp) ?_;intro g cap' w1 hown1 hgrow hat hlt)
 simp only[Nat.zero_add,List.nil_append]at hown1 ⊢;obtain⟨hhas,hg2⟩:=dQ hown1 rfl;go_wp2;go_ret;refine⟨_,_,rfl,mW hown1,fun _=>⟨g,rfl,hg2,hhas⟩,?_⟩;refine Below.grown ((Below.refl _ _).alloc nl _) hgrow (by simp) ?_;intro k hk;simp[Value.ownBlock]at hk;omega
theorem B6(ao:Option Addr)(cap:Nat)(T:Nat->Int)(X:Nat->ByteArray)(w:World):
  Calls Tryz.prog 70 #[.slice ao 0 cap] w fun e w'=>∃ ao' cap',e=.returned (.slice ao' 0 cap')/\0<=cap'/\NOwn w w' ao' 0 T X/\Below w.heap.size w w':=by
 have hsc:∀ (a:Addr) (w:World),(storeCells a []).run Tryz.prog w=.ok () w:=fun _ _=>rfl
 cases ao with
 | none=>
  have hnil:=fun W=>wT 0 cap W
  go_enter Tryz.func70,Tryz.ntmps70;go_wp2;go_ret;exact⟨_,_,rfl,Nat.zero_le _,fun h=>by omega,by first|exact Below.refl _ _|exact (Below.refl _ _).alloc nl _⟩
 | some a=>
  have hnil:=fun W=>nR a 0 cap W
  go_enter Tryz.func70,Tryz.ntmps70;go_wp2;go_ret;exact⟨_,_,rfl,Nat.zero_le _,fun h=>by omega,by first|exact Below.refl _ _|exact (Below.refl _ _).alloc nl _⟩
theorem J7(ao:Option Addr)(n cap:Nat)(T:Nat->Int)(X:Nat->ByteArray)(hn:n<=1048576)(w:World)(hr:NRow w ao n T X):
  Calls Tryz.prog 70 #[.slice ao n cap] w fun e w'=>∃ ao' cap',e=.returned (.slice ao' n cap')/\n<=cap'/\NOwn w w' ao' n T X/\Below w.heap.size w w':=by
 by_cases h:0<n
 ·obtain⟨b,o,e,_⟩:=hr 0 h
  subst e;exact J6 b o n cap T X hn h w hr
 ·obtain rfl:n=0:=by omega
  exact B6 ao cap T X w
theorem S2(n:Nat)(hn:n<=3000000)(hpos:0<n)(w:World):
  Calls Tryz.prog 138 #[.slice none 0 0,.int .i64 n] w fun e w'=>∃ g cap,e=.returned (.slice (some ⟨g,0,none⟩) 0 cap)/\n<=cap/\w'.ownsRow w.heap.size 47 2 (.slice (some ⟨g,0,none⟩) 0 cap) 0 []/\Below w.heap.size w w':=by
 obtain⟨i0,hi0,hz0,hz1,hz2⟩:=info_parts Tryz.infoEntry;have h1:¬ (n:Int)<0:=by omega
 have h2:(0:Int)<(n:Int):=by omega
 go_enter Tryz.func138,Tryz.ntmps138;have hrun:=fun W=>Lib.run_append_nil_zeros (P:=Tryz.prog) W 24 3 24 47 i0 _ .i64 .i64 Tryz.underlying24 Tryz.underlying3 hi0 hz0 n hpos (by omega) (by omega) (by rw[hz2];omega)
 go_wp2_with (at_builtin;refine Lib.wpList_append_run _ rfl _ _ 24 3 rfl (.slice none 0 0) (.int .i64 n) rfl rfl _ _ (hrun _) ?_)
 have hge:=grownCap_ge w n 0 47;have hle:=grownCap_le_maxLen w n 0 47 (by unfold maxLen;omega);go_ret;refine⟨_,_,rfl,hge,⟨rfl,.inr ⟨_,_,_,rfl,Nat.le_refl _,Go.Deep.blk_alloc_new _ _,Nat.zero_le _,hle,?_,by simp⟩⟩,((Below.refl _ _).alloc nl _).drew⟩;rw[Array.size_append,size_zeroCells,size_zeroCells];simp;omega
theorem B7(q:Nat)(ao1 ao2:Option Addr)(n1 n2 cap1 cap2:Nat)(T U:Nat->Int)(X Y:Nat->ByteArray)(h1:n1<=1048576)(h2:n2<=1048576)(hp:0<n2)(w:World)
  (hq1:w.cell? ⟨q,0,none⟩=some (.slice ao1 n1 cap1)) (hq2:w.cell? ⟨q,1,none⟩=some (.slice ao2 n2 cap2)) (hr1:NRow w ao1 n1 T X) (hr2:NRow w ao2 n2 U Y):
  Calls Tryz.prog 132 #[.slice (some ⟨q,0,none⟩) 2 2] w fun e w'=>∃ ao cap,e=.returned (.slice ao (n1+n2) cap)/\(∃ g,ao=some ⟨g,0,none⟩/\w'.ownsRow w.heap.size 47 2 (.slice ao (n1+n2) cap) (n1+n2) (bT T X n1++bT U Y n2))/\Below w.heap.size w w':=by
 have e1:¬ (n1:Int)<0:=by omega
 have e2:¬ (n1:Int)+(n2:Int)<0:=by omega
 have e3:IntKind.i64.wrap ((n1:Int)+(n2:Int))=((n1+n2:Nat):Int):=wi
 go_enter Tryz.func132,Tryz.ntmps132;go_wp2;refine wp_loop_rounds 3 ?_;rw[rounds_succ];go_wp2;rw[rounds_succ];go_wp2;rw[rounds_succ]
 go_wp2_with fail
 have hG:=S2 (n1+n2) (by omega) (by omega) w;simp only[Int.natCast_add]at hG;refine hG.mono ?_;rintro e w1 ⟨g,cap,rfl,hcap,hown,hb1⟩;clear hG e3;obtain⟨i0,hi0,hz0,hz1,hz2⟩:=info_parts Tryz.infoEntry;have q1:=aB hb1 nl hq1;have q2:=aB hb1 nl hq2;obtain⟨b2,o2,hao2,_⟩:=hr2 0 hp;subst hao2
 by_cases hz:0<n1
 ·obtain⟨b1,o1,hao1,_⟩:=hr1 0 hz
  subst hao1;go_wp2;refine wp_loop_rounds 3 ?_;rw[rounds_succ]
  go_wp2_with (at_builtin;refine wpList_append_lies _ rfl _ _ _ rfl w.heap.size 47 i0 _ 2 24 Tryz.underlying24 hi0 hz0 hz1 hz2 rfl (by omega) (.slice (some ⟨g,0,none⟩) 0 cap) 0 [] rfl hown ⟨b1,o1,none⟩ n1 cap1 (bT T X n1) rfl (dC _ _ _) (NRow.news (hr1.below hb1 nl)) (hZ _ _ _) hz (by unfold maxLen;omega) (by omega) hb1.size w1.heap.size rfl ?_;intro g2 cap3 w2 hown2 hgrow hat hlt)
  simp only[Nat.zero_add,List.nil_append]at hown2 ⊢;have hg0:w.heap.size<=g:=(dQ (T:=T) (X:=X) hown rfl).2;have hA2:Below w.heap.size w w2:=Below.grown hb1 hgrow hb1.size (fun k hk=>by simp[Value.ownBlock]at hk;omega);have q1:=aB hA2 nl hq1;have q2:=aB hA2 nl hq2;clear hown hgrow hat hb1;go_wp2;rw[rounds_succ]
  go_wp2_with (at_builtin;refine wpList_append_lies _ rfl _ _ _ rfl w.heap.size 47 i0 _ 2 24 Tryz.underlying24 hi0 hz0 hz1 hz2 rfl (by omega) (.slice (some ⟨g2,0,none⟩) n1 cap3) n1 (bT T X n1) rfl hown2 ⟨b2,o2,none⟩ n2 cap2 (bT U Y n2) rfl (dC _ _ _) (NRow.news (hr2.below hA2 nl)) (hZ _ _ _) hp (by unfold maxLen;omega) (by omega) hA2.size w2.heap.size rfl ?_;intro g3 cap4 w3 hown3 hgrow hat3 hlt3)
  have hg2:w.heap.size<=g2:=(dQ hown2 rfl).2;have hA3:Below w.heap.size w w3:=Below.grown hA2 hgrow hA2.size (fun k hk=>by simp[Value.ownBlock]at hk;omega);clear hown2 hgrow hat3;go_wp2;rw[rounds_succ];go_wp2;go_ret;exact⟨_,_,rfl,⟨g3,rfl,hown3⟩,hA3⟩
 ·obtain rfl:n1=0:=by omega
  have hsc:∀ (a:Addr) (w:World),(storeCells a []).run Tryz.prog w=.ok () w:=fun _ _=>rfl
  have hnc:bT T X 0=[]:=rfl;have hg0:w.heap.size<=g:=(dQ (T:=T) (X:=X) hown rfl).2;have hrow2:=hr2.below hb1 nl;have hz9:=hb1.size;cases ao1 with
  | none=>
   go_wp2;refine wp_loop_rounds 3 ?_;rw[rounds_succ];go_wp2;rw[rounds_succ]
   go_wp2_with (at_builtin;refine wpList_append_lies _ rfl _ _ _ rfl w.heap.size 47 i0 _ 2 24 Tryz.underlying24 hi0 hz0 hz1 hz2 rfl (by omega) (.slice (some ⟨g,0,none⟩) 0 cap) 0 [] rfl hown ⟨b2,o2,none⟩ n2 cap2 (bT U Y n2) rfl (dC _ _ _) (NRow.news hrow2) (hZ _ _ _) hp (by unfold maxLen;omega) (by omega) hz9 w1.heap.size rfl ?_;intro g3 cap4 w3 hown3 hgrow hat3 hlt3)
   have hA3:Below w.heap.size w w3:=Below.grown hb1 hgrow hz9 (fun k hk=>by simp[Value.ownBlock]at hk;omega);clear hown hgrow hat3;go_wp2;rw[rounds_succ];go_wp2;go_ret;simp only[Nat.zero_add,List.nil_append,hnc]at hown3 ⊢;exact⟨_,_,rfl,⟨g3,rfl,hown3⟩,hA3⟩
  | some a1=>
   go_wp2;refine wp_loop_rounds 3 ?_;rw[rounds_succ];go_wp2;rw[rounds_succ]
   go_wp2_with (at_builtin;refine wpList_append_lies _ rfl _ _ _ rfl w.heap.size 47 i0 _ 2 24 Tryz.underlying24 hi0 hz0 hz1 hz2 rfl (by omega) (.slice (some ⟨g,0,none⟩) 0 cap) 0 [] rfl hown ⟨b2,o2,none⟩ n2 cap2 (bT U Y n2) rfl (dC _ _ _) (NRow.news hrow2) (hZ _ _ _) hp (by unfold maxLen;omega) (by omega) hz9 w1.heap.size rfl ?_;intro g3 cap4 w3 hown3 hgrow hat3 hlt3)
   have hA3:Below w.heap.size w w3:=Below.grown hb1 hgrow hz9 (fun k hk=>by simp[Value.ownBlock]at hk;omega);clear hown hgrow hat3;go_wp2;rw[rounds_succ];go_wp2;go_ret;simp only[Nat.zero_add,List.nil_append,hnc]at hown3 ⊢;exact⟨_,_,rfl,⟨g3,rfl,hown3⟩,hA3⟩
theorem CV(T:Nat->Int)(X:Nat->ByteArray)(j:Nat):(nr T X j).oneCell'=true:=by
 unfold nr
 split<;>rfl
theorem EH(T:Nat->Int)(X:Nat->ByteArray)(m:Nat):∀ u∈cV (nr T X) m,u.oneCell'=true:=fun u hu=>by
 simp only[cV,List.mem_map,List.mem_range]at hu;obtain⟨j,_,rfl⟩:=hu;exact CV T X j
theorem C0(b o n cap:Nat)(T:Nat->Int)(X:Nat->ByteArray)(hn:n<=1048576)(hpos:0<n)(w:World)(hr:GRow w (some ⟨b,o,none⟩) (n*2) (nr T X)):
  Calls Tryz.prog 70 #[.slice (some ⟨b,o,none⟩) n cap] w fun e w'=>∃ ao' cap',e=.returned (.slice ao' n cap')/\GOwn w' w.heap.size 47 2 ao' n cap' (nr T X)/\Below w.heap.size w w':=by
 obtain⟨i0,hi0,hz0,hz1,hz2⟩:=info_parts Tryz.infoEntry;have hnil:=fun W=>nR ⟨b,o,none⟩ n cap W
 go_enter Tryz.func70,Tryz.ntmps70
 go_wp2_with (at_builtin;refine wpList_append_lies _ rfl _ _ _ rfl w.heap.size 47 i0 _ 2 24 Tryz.underlying24 hi0 hz0 hz1 hz2 rfl (by omega) (.slice (some ⟨w.heap.size,0,none⟩) 0 0) 0 [] rfl (mP w 47 2) ⟨b,o,none⟩ n cap (cV (nr T X) (n*2)) rfl (bR _ _) (GRow.news (hr.next ((Below.refl _ _).alloc nl _))) (EH T X _) hpos (by unfold maxLen;omega) (by omega) (by simp) (w.heap.size+1) (by simp) ?_;intro g cap' w1 hown1 hgrow hat hlt)
 simp only[Nat.zero_add,List.nil_append]at hown1 ⊢;go_wp2;go_ret;refine⟨_,_,rfl,hown1,?_⟩;refine Below.grown ((Below.refl _ _).alloc nl _) hgrow (by simp) ?_;intro k hk;simp[Value.ownBlock]at hk;omega
theorem yS(ao:Option Addr)(cap:Nat)(T:Nat->Int)(X:Nat->ByteArray)(w:World):
  Calls Tryz.prog 70 #[.slice ao 0 cap] w fun e w'=>∃ ao' cap',e=.returned (.slice ao' 0 cap')/\GOwn w' w.heap.size 47 2 ao' 0 cap' (nr T X)/\Below w.heap.size w w':=by
 have hsc:∀ (a:Addr) (w:World),(storeCells a []).run Tryz.prog w=.ok () w:=fun _ _=>rfl
 cases ao with
 | none=>
  have hnil:=fun W=>wT 0 cap W
  go_enter Tryz.func70,Tryz.ntmps70;go_wp2;go_ret;exact⟨_,_,rfl,GOwn.nil _ _ _ _ _,by first|exact Below.refl _ _|exact (Below.refl _ _).alloc nl _⟩
 | some a=>
  have hnil:=fun W=>nR a 0 cap W
  go_enter Tryz.func70,Tryz.ntmps70;go_wp2;go_ret;exact⟨_,_,rfl,GOwn.empty _ _ _ _,by first|exact Below.refl _ _|exact (Below.refl _ _).alloc nl _⟩
theorem C3(ao:Option Addr)(n cap:Nat)(T:Nat->Int)(X:Nat->ByteArray)(hn:n<=1048576)(w:World)(hr:GRow w ao (n*2) (nr T X)):
  Calls Tryz.prog 70 #[.slice ao n cap] w fun e w'=>∃ ao' cap',e=.returned (.slice ao' n cap')/\GOwn w' w.heap.size 47 2 ao' n cap' (nr T X)/\Below w.heap.size w w':=by
 by_cases h:0<n
 ·obtain⟨b,o,e,_⟩:=hr (by omega)
  subst e;exact C0 b o n cap T X hn h w hr
 ·obtain rfl:n=0:=by omega
  exact yS ao cap T X w
theorem Tryz.info9I:(Tryz.prog.info? 2).map (fun i=>(i.zero,i.size,i.bytes))=some (some (.int .i64 0),1,8):=by kernel_rfl
theorem uU(a:Addr)(n cap:Nat)(w:World):(binOp BinOp.eql 25 (.slice (some a) n cap) (.slice none 0 0)).run Tryz.prog w=.ok (.bool false) w:=by kernel_rfl
theorem N8(n cap:Nat)(w:World):(binOp BinOp.eql 25 (.slice none n cap) (.slice none 0 0)).run Tryz.prog w=.ok (.bool true) w:=by kernel_rfl
theorem EJ(P:Nat->Int)(m:Nat):∀ u∈cV (fun j=>Value.int .i64 (P j)) m,u.oneCell'=true:=fun u hu=>by
 simp only[cV,List.mem_map,List.mem_range]at hu;obtain⟨j,_,rfl⟩:=hu;rfl
theorem D3(b o n cap:Nat)(P:Nat->Int)(hn:n<=1048576)(hpos:0<n)(w:World)(hr:GRow w (some ⟨b,o,none⟩) (n*1) (fun j=>Value.int .i64 (P j))):
  Calls Tryz.prog 71 #[.slice (some ⟨b,o,none⟩) n cap] w fun e w'=>∃ ao' cap',e=.returned (.slice ao' n cap')/\GOwn w' w.heap.size 2 1 ao' n cap' (fun j=>Value.int .i64 (P j))/\Below w.heap.size w w':=by
 obtain⟨i0,hi0,hz0,hz1,hz2⟩:=info_parts Tryz.info9I;have hnil:=fun W=>uU ⟨b,o,none⟩ n cap W
 go_enter Tryz.func71,Tryz.ntmps71
 go_wp2_with (at_builtin;refine wpList_append_lies _ rfl _ _ _ rfl w.heap.size 2 i0 _ 1 8 Tryz.underlying25 hi0 hz0 hz1 hz2 rfl (by omega) (.slice (some ⟨w.heap.size,0,none⟩) 0 0) 0 [] rfl (mP w 2 1) ⟨b,o,none⟩ n cap (cV (fun j=>Value.int .i64 (P j)) (n*1)) rfl (bR _ _) (GRow.news (hr.next ((Below.refl _ _).alloc nl _))) (EJ P _) hpos (by unfold maxLen;omega) (by omega) (by simp) (w.heap.size+1) (by simp) ?_;intro g cap' w1 hown1 hgrow hat hlt)
 simp only[Nat.zero_add,List.nil_append]at hown1 ⊢;go_wp2;go_ret;refine⟨_,_,rfl,hown1,?_⟩;refine Below.grown ((Below.refl _ _).alloc nl _) hgrow (by simp) ?_;intro k hk;simp[Value.ownBlock]at hk;omega
theorem zA(ao:Option Addr)(cap:Nat)(P:Nat->Int)(w:World):
  Calls Tryz.prog 71 #[.slice ao 0 cap] w fun e w'=>∃ ao' cap',e=.returned (.slice ao' 0 cap')/\GOwn w' w.heap.size 2 1 ao' 0 cap' (fun j=>Value.int .i64 (P j))/\Below w.heap.size w w':=by
 have hsc:∀ (a:Addr) (w:World),(storeCells a []).run Tryz.prog w=.ok () w:=fun _ _=>rfl
 cases ao with
 | none=>
  have hnil:=fun W=>N8 0 cap W
  go_enter Tryz.func71,Tryz.ntmps71;go_wp2;go_ret;exact⟨_,_,rfl,GOwn.nil _ _ _ _ _,by first|exact Below.refl _ _|exact (Below.refl _ _).alloc nl _⟩
 | some a=>
  have hnil:=fun W=>uU a 0 cap W
  go_enter Tryz.func71,Tryz.ntmps71;go_wp2;go_ret;exact⟨_,_,rfl,GOwn.empty _ _ _ _,by first|exact Below.refl _ _|exact (Below.refl _ _).alloc nl _⟩
theorem D4(ao:Option Addr)(n cap:Nat)(P:Nat->Int)(hn:n<=1048576)(w:World)(hr:GRow w ao (n*1) (fun j=>Value.int .i64 (P j))):
  Calls Tryz.prog 71 #[.slice ao n cap] w fun e w'=>∃ ao' cap',e=.returned (.slice ao' n cap')/\GOwn w' w.heap.size 2 1 ao' n cap' (fun j=>Value.int .i64 (P j))/\Below w.heap.size w w':=by
 by_cases h:0<n
 ·obtain⟨b,o,e,_⟩:=hr (by omega)
  subst e;exact D3 b o n cap P hn h w hr
 ·obtain rfl:n=0:=by omega
  exact zA ao cap P w
end
end Go.Proofs.YtbabakgjkloabaaGreatDoor
