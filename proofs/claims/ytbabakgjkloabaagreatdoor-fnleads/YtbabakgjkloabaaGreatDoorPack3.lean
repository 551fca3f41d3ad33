/-
  Helpers: Small, In, Ok, CmdP, RdP, CutR, WdsP, Jumps, Ints, Grow, OwnI, NumR.
-/
import Derived.Test.YtbabakgjkloabaaGreatDoorPack1
import Derived.WalkKit
import Derived.WalkSpells
import Derived.WalkLawsBesides
import Derived.Deep.RegionHeld3
import Derived.Deep.OwnRows
import Derived.Test.YtbabakgjkloabaaGreatDoorPack2
import Derived.Laws.RangeAny
import Derived.Test.YtbabakgjkloabaaGreatDoorRows
import Derived.Scope
import Derived.Deep.AppendLies
set_option linter.unusedVariables false
set_option linter.unusedSimpArgs false
namespace Go.Proofs.YtbabakgjkloabaaGreatDoor
section
open Go.RowKit
def ar (F T G:Nat->Int) (j:Nat):Int:=if j%3=0 then F (j / 3) else if j%3=1 then T (j / 3) else G (j / 3)
theorem ar0 (F T G:Nat->Int) (k:Nat):ar F T G (k*3)=F k:=by
 unfold ar;rw[if_pos (by omega)];congr 1;omega
theorem ar1 (F T G:Nat->Int) (k:Nat):ar F T G (k*3+1)=T k:=by
 unfold ar;rw[if_neg (by omega),if_pos (by omega)];congr 1;omega
theorem ar2 (F T G:Nat->Int) (k:Nat):ar F T G (k*3+2)=G k:=by
 unfold ar;rw[if_neg (by omega),if_neg (by omega)];congr 1;omega
def Row (w:World) (ao:Option Addr) (n:Nat) (F T G:Nat->Int):Prop:=∀ k,k<n->∃ b o,ao=some ⟨b,o,none⟩ ∧
 w.cell? ⟨b,o+k*3,none⟩=some (.int .i64 (F k))/\w.cell? ⟨b,o+k*3+1,none⟩=some (.int .i64 (T k))/\w.cell? ⟨b,o+k*3+2,none⟩=some (.int .i64 (G k))
theorem Row.below {w w':World} {B:Nat} {ao:Option Addr} {n:Nat} {F T G:Nat->Int} (h:Row w ao n F T G) (hb:Below B w w') (hB:w.heap.size<=B):Row w' ao n F T G:=fun k hk=>by
 obtain⟨b,o,e,c0,c1,c2⟩:=h k hk;have hlt:=lt_of_cell c0;exact⟨b,o,e,by rw[hb.cell (by simp;omega)];exact c0,by rw[hb.cell (by simp;omega)];exact c1,by rw[hb.cell (by simp;omega)];exact c2⟩
theorem Row.alloc {w:World} {ao:Option Addr} {n:Nat} {F T G:Nat->Int} (h:Row w ao n F T G) (o:Obj):Row (w.alloc o) ao n F T G:=h.below ((Below.refl w.heap.size w).alloc nl o) nl
def Own (w:World) (b n:Nat) (f:Nat->Int):Prop:=w.rowIs b 115 (n*3) (fun j=>.int .i64 (f j))
theorem Own.row {w:World} {b n:Nat} {F T G:Nat->Int} (h:Own w b n (ar F T G)):Row w (some ⟨b,0,none⟩) n F T G:=fun k hk=>by
 refine⟨b,0,rfl,?_,?_,?_⟩
 ·have:=World.rowIs.cell h (i:=k*3) (by omega);rw[ar0]at this;simpa using this
 ·have:=World.rowIs.cell h (i:=k*3+1) (by omega);rw[ar1]at this;simpa using this
 ·have:=World.rowIs.cell h (i:=k*3+2) (by omega);rw[ar2]at this;simpa using this
theorem Own.below {w w':World} {b n:Nat} {f:Nat->Int} (h:Own w b n f) (hb:Below w.heap.size w w'):Own w' b n f:=World.rowIs.of_block h (hb.block b (World.rowIs.lt h))
theorem Own.three {w:World} {b n k:Nat} {F T G:Nat->Int} (h:Own w b n (upto (ar F T G) (k*3))) (hk:k<n):
  Own (((w.setCell ⟨b,k*3,none⟩ (.int .i64 (F k))).setCell ⟨b,k*3+1,none⟩ (.int .i64 (T k))).setCell ⟨b,k*3+2,none⟩ (.int .i64 (G k))) b n (upto (ar F T G) ((k+1)*3)):=by
 refine (((World.rowIs.set h (k*3) _).set (k*3+1) _).set (k*3+2) _).congr fun j hj=>?_
 by_cases e2:j=k*3+2
 ·subst e2;simp only[if_pos];unfold upto;rw[if_pos (by omega),ar2]
 by_cases e1:j=k*3+1
 ·subst e1;rw[if_neg (by omega),if_pos rfl];unfold upto;rw[if_pos (by omega),ar1]
 by_cases e0:j=k*3
 ·subst e0;rw[if_neg (by omega),if_neg (by omega),if_pos rfl];unfold upto;rw[if_pos (by omega),ar0]
 rw[if_neg e2,if_neg e1,if_neg e0];unfold upto
 by_cases hl:j<k*3
 ·rw[if_pos hl,if_pos (by omega)]
 ·rw[if_neg hl,if_neg (by omega)]
theorem Tryz.infoArc:(Tryz.prog.info? 115).map (fun i=>(i.zero,i.size,i.bytes))=some (some (.agg #[.int .i64 0,.int .i64 0,.int .i64 0]),3,24):=by kernel_rfl
theorem made_own (w:World) (n:Nat) (f:Nat->Int):Own (w.alloc (.cells (madeCells #[.int .i64 0,.int .i64 0,.int .i64 0] (n*3)) 115)) w.heap.size n (upto f 0):=by
 refine⟨_,Go.Deep.blk_alloc_new _ _,size_madeCells _ _,fun i hi=>?_⟩;have h3:i%3=0\/i%3=1\/i%3=2:=by omega
 simp[madeCells,hi,upto];rcases h3 with h|h|h<;>simp[h]
theorem make_arcs (n:Nat) (hn:n<=1048576) (w:World):
  (Instr.makeSlice 76 (.int .i64 (n:Int)) (.int .i64 (n:Int))).run Tryz.prog w=.ok (.slice (some ⟨w.heap.size,0,none⟩) n n) (w.alloc (.cells (madeCells #[.int .i64 0,.int .i64 0,.int .i64 0] (n*3)) 115)):=by
 obtain⟨i,hi,hz0,hz1,hz2⟩:=info_parts Tryz.infoArc;have hr:=run_make (P:=Tryz.prog) w 76 115 i _ Tryz.underlying76 hi hz0 .i64 .i64 n n (by omega) (Int.le_refl _) (by rw[hz2];omega) (by omega);simpa[hz1,Value.cells] using hr
theorem l1In_any (x lo hi:Int) (w:World):
  Calls Tryz.prog 40 #[.int .i64 x,.int .i64 lo,.int .i64 hi] w fun e w'=>e=.returned (.bool (inB x lo hi))/\w'=w:=by
 by_cases h1:lo<=x<;>by_cases h2:x<=hi <;>
 ·go_enter Tryz.func40,Tryz.ntmps40
  go_wp2;go_ret;exact⟨by simp[inB,h1,h2],rfl⟩
theorem placeOk_any (x p:Int) (w:World):
  Calls Tryz.prog 128 #[.int .i64 x,.int .i64 p] w fun e w'=>e=.returned (.bool (inB x 0 (p-1)))/\w'=w:=by
 by_cases h1:0<=x<;>by_cases h2:x<p <;>
 ·go_enter Tryz.func128,Tryz.ntmps128
  go_wp2;go_ret;exact⟨by simp[inB,h1];omega,rfl⟩
def arcB (f t g p:Int):Bool:=inB f 0 (p-1)&&(inB t 0 (p-1)&&(f != t&&inB g 1 1000000))
set_option maxHeartbeats 800000 in
theorem l1Arc_any (f t g p:Int) (hp:1<=p) (hp':p<=24) (w:World):
  Calls Tryz.prog 117 #[.agg #[.int .i64 f,.int .i64 t,.int .i64 g],.int .i64 p] w fun e w'=>e=.returned (.bool (arcB f t g p))/\Below w.heap.size w w':=by
 unfold arcB;rcases Bool.eq_false_or_eq_true (inB f 0 (p-1)) with h1|h1
 ·rcases Bool.eq_false_or_eq_true (inB t 0 (p-1)) with h2|h2
  ·rcases Bool.eq_false_or_eq_true (f != t) with h3|h3 <;>
   ·go_enter Tryz.func117,Tryz.ntmps117
    go_wp2_with (go_at_call 40;refine (l1In_any _ _ _ _).mono ?_;rintro e w1 ⟨rfl,rfl⟩)
    go_ret;exact⟨by simp[h1,h2,h3],(Below.refl _ _).alloc nl _⟩
  ·go_enter Tryz.func117,Tryz.ntmps117
   go_wp2_with (go_at_call 40;refine (l1In_any _ _ _ _).mono ?_;rintro e w1 ⟨rfl,rfl⟩)
   go_ret;exact⟨by simp[h1,h2],(Below.refl _ _).alloc nl _⟩
 ·go_enter Tryz.func117,Tryz.ntmps117
  go_wp2_with (go_at_call 40;refine (l1In_any _ _ _ _).mono ?_;rintro e w1 ⟨rfl,rfl⟩)
  go_ret;exact⟨by simp[h1],(Below.refl _ _).alloc nl _⟩
end
section
def batB (F T G:Nat->Int):Nat->Bool
 | 0=>true
 | k+1=>batB F T G k&&arcB (F k) (T k) (G k) 24
def batchB (F T G:Nat->Int) (n:Nat):Bool:=decide (1<=n)&&(decide (n<=10)&&batB F T G n)
def cmdB (K:Int) (n:Nat) (F T G:Nat->Int) (a b:Int):Bool:=
 if K=1 then decide (n=0)&&(decide (a=0)&&decide (b=0))
 else if K=2 then batchB F T G n&&(decide (a=0)&&decide (b=0))
 else if K=3 then decide (n=0)&&(inB a 0 23&&inB b 0 23)
 else false
theorem batB_no {F T G:Nat->Int}:∀ {n k:Nat},k<n->arcB (F k) (T k) (G k) 24=false->batB F T G n=false
 | 0,k,h,_=>by omega
 | n+1,k,h,hb=>by
  unfold batB
  by_cases e:k=n
  ·subst e;rw[hb];simp
  ·rw[batB_no (n:=n) (k:=k) (by omega) hb];simp
def isL (c:UInt8):Bool:=decide (97<=c.toNat)&&decide (c.toNat<=122)
def at3 (ns:List Int) (j k:Nat):Int:=ns.getD (3*k+j) 0
def txNone:List UInt8:=[110,111,110,101]
def txAsk:List UInt8:=[97,115,107]
def txWeigh:List UInt8:=[119,101,105,103,104]
def okC (K:Int) (ns:List Int):Bool:=
 if K=1 then true else if K=2 then cmdB 2 (ns.length / 3) (at3 ns 0) (at3 ns 1) (at3 ns 2) 0 0 else cmdB 3 0 (at3 ns 0) (at3 ns 0) (at3 ns 0) (ns.getD 0 0) (ns.getD 1 0)
def rdS (l:List UInt8):Option (Int × List Int):=
 if l=txNone then some (1,[]) else
 if 4<l.length/\l.take 4=txAsk++[32] then (match snums (l.drop 4) [] [] with|some ns=>if ns.length=2 then some (3,ns) else none|none=>none) else
 if 6<l.length/\l.take 6=txWeigh++[32] then (match snums (l.drop 6) [] [] with|some ns=>if ns.length%3=0 then some (2,ns) else none|none=>none) else none
def wds (l:List UInt8):Option (List UInt8 × List Int):=
 match l.dropWhile isL with
 | []=>some (l,[])
 | c :: t=>if c=32 then (inums t (.ahead [])).map (fun ns=>(l.takeWhile isL,ns)) else none
def cmdOf (nm:List UInt8) (ns:List Int):Option (Int × List Int):=
 if nm=txNone then (if ns.length=0 then some (1,[]) else none) else
 if nm=txWeigh then (if ns.length%3=0 then some (2,ns) else none) else
 if nm=txAsk then (if ns.length=2 then some (3,ns) else none) else none
def rdI (l:List UInt8):Option (Int × List Int):=match wds l with|some (nm,ns)=>cmdOf nm ns|none=>none
def onlyOk (r:Option (Int × List Int)):Option (Int × List Int):=match r with|some (K,ns)=>if okC K ns=true then some (K,ns) else none|none=>none
theorem inB_iff {x lo hi:Int}:inB x lo hi=true↔lo<=x/\x<=hi:=by simp[inB]
theorem arcB_iff {f t g p:Int}:arcB f t g p=true↔(0<=f/\f<=p-1)/\(0<=t/\t<=p-1)/\f≠t/\1<=g/\g<=1000000:=by simp[arcB,inB]
theorem batB_at {F T G:Nat->Int}:∀ {n k:Nat},batB F T G n=true->k<n->arcB (F k) (T k) (G k) 24=true
 | 0,k,_,h=>by omega
 | n+1,k,hb,h=>by
  unfold batB at hb;rw[Bool.and_eq_true]at hb
  by_cases e:k=n
  ·subst e;exact hb.2
  ·exact batB_at hb.1 (by omega)
theorem fine3 {ns:List Int} (hl:ns.length=2) (h:okC 3 ns=true):Fine 0 ns:=by
 match ns,hl with
 | [a,b],_=>
  simp[okC,cmdB,inB_iff]at h;exact⟨by simp;omega,by simp⟩
theorem fine2 {ns:List Int} (hl:ns.length%3=0) (h:okC 2 ns=true):Fine 0 ns:=by
 simp[okC,cmdB,batchB]at h;obtain⟨h1,h2,h3⟩:=h;refine⟨fun x hx=>?_,by omega⟩;simp at hx;obtain⟨i,hi,rfl⟩:=List.getElem_of_mem hx;have hb:=arcB_iff.1 (batB_at (k:=i / 3) h3 (by omega))
 have hg:∀ j,3*(i / 3)+j=i->at3 ns j (i / 3)=ns[i]:=fun j e=>by
  unfold at3;rw[e];simp[List.getD,hi]
 have hm:i%3=0\/i%3=1\/i%3=2:=by omega
 rcases hm with hm|hm|hm
 ·rw[<-hg 0 (by omega)];omega
 ·rw[<-hg 1 (by omega)];omega
 ·rw[<-hg 2 (by omega)];omega
theorem drop_split (l:List UInt8):l=l.takeWhile isL++l.dropWhile isL:=(List.takeWhile_append_dropWhile).symm
theorem take_ask {l:List UInt8} (h:l.take 4=txAsk++[32]):l.takeWhile isL=txAsk/\l.dropWhile isL=32 :: l.drop 4:=by
 match l,h with
 | a :: b :: c :: d :: t,h=>
  simp[txAsk]at h;obtain⟨rfl,rfl,rfl,rfl⟩:=h;exact⟨rfl,rfl⟩
 | [a,b,c],h=>simp[txAsk]at h
 | [a,b],h=>simp[txAsk]at h
 | [a],h=>simp[txAsk]at h
 | [],h=>simp[txAsk]at h
theorem take_weigh {l:List UInt8} (h:l.take 6=txWeigh++[32]):l.takeWhile isL=txWeigh/\l.dropWhile isL=32 :: l.drop 6:=by
 match l,h with
 | a :: b :: c :: d :: e :: f :: t,h=>
  simp[txWeigh]at h;obtain⟨rfl,rfl,rfl,rfl,rfl,rfl⟩:=h;exact⟨rfl,rfl⟩
 | [a,b,c,d,e],h=>simp[txWeigh]at h
 | [a,b,c,d],h=>simp[txWeigh]at h
 | [a,b,c],h=>simp[txWeigh]at h
 | [a,b],h=>simp[txWeigh]at h
 | [a],h=>simp[txWeigh]at h
 | [],h=>simp[txWeigh]at h
theorem nums_zero {t:List UInt8} {ns:List Int}:inums t (.ahead [])=some ns↔snums t [] []=some ns/\Fine 0 ns:=(nums_same t).1 [] ns (by simp)
theorem snums_nil:snums [] [] []=none:=by simp[snums,num1_nil]
theorem only_kind {t:List UInt8} {K:Int} {C:List Int->Prop} [DecidablePred C] (hf:∀ ns,C ns->okC K ns=true->Fine 0 ns):
  onlyOk (match inums t (.ahead []) with|some ns=>if C ns then some (K,ns) else none|none=>none)=onlyOk (match snums t [] [] with|some ns=>if C ns then some (K,ns) else none|none=>none):=by
 cases hs:snums t [] [] with
 | none=>
  have hi:inums t (.ahead [])=none:=by
   cases hi:inums t (.ahead []) with
   | none=>rfl
   | some ns=>have:=(nums_zero.1 hi).1;rw[hs]at this;cases this
  rw[hi]
 | some ns=>
  by_cases hF:Fine 0 ns
  ·rw[nums_zero.2 ⟨hs,hF⟩]
  ·have hi:inums t (.ahead [])=none:=by
    cases hi:inums t (.ahead []) with
    | none=>rfl
    | some ns'=>
     have:=nums_zero.1 hi;rw[hs]at this;obtain⟨e,hF'⟩:=this;cases e;exact absurd hF' hF
   rw[hi]
   by_cases hC:C ns
   ·have hk:okC K ns=false:=by
     cases hk:okC K ns with
     | false=>rfl
     | true=>exact absurd (hf ns hC hk) hF
    simp[onlyOk,hC,hk]
   ·simp[onlyOk,hC]
theorem read_same (l:List UInt8):onlyOk (rdI l)=onlyOk (rdS l):=by
 by_cases h1:l=txNone
 ·subst h1
  have e1:rdI txNone=some (1,[]):=by decide
  have e2:rdS txNone=some (1,[]):=by simp[rdS]
  rw[e1,e2]
 by_cases h2:l.take 4=txAsk++[32]
 ·obtain⟨hn,hd⟩:=take_ask h2
  have e1:rdI l=match inums (l.drop 4) (.ahead []) with|some ns=>if ns.length=2 then some (3,ns) else none|none=>none:=by
   unfold rdI wds;rw[hd,hn];simp only[if_pos];cases inums (l.drop 4) (.ahead []) with
   | none=>rfl
   | some ns=>simp[cmdOf,txAsk,txNone,txWeigh]
  rw[e1,only_kind (fun ns hC hk=>fine3 hC hk)]
  by_cases h4:4<l.length
  ·unfold rdS
   rw[if_neg h1,if_pos ⟨h4,h2⟩]
  ·have hdr:l.drop 4=[]:=List.drop_eq_nil_of_le (by omega)
   have h6:¬ 6<l.length:=by omega
   unfold rdS;rw[if_neg h1,if_neg (fun e=>h4 e.1),if_neg (fun e=>h6 e.1),hdr,snums_nil]
 by_cases h3:l.take 6=txWeigh++[32]
 ·obtain⟨hn,hd⟩:=take_weigh h3
  have e1:rdI l=match inums (l.drop 6) (.ahead []) with|some ns=>if ns.length%3=0 then some (2,ns) else none|none=>none:=by
   unfold rdI wds;rw[hd,hn];simp only[if_pos];cases inums (l.drop 6) (.ahead []) with
   | none=>rfl
   | some ns=>simp[cmdOf,txAsk,txNone,txWeigh]
  rw[e1,only_kind (fun ns hC hk=>fine2 hC hk)]
  by_cases h6:6<l.length
  ·unfold rdS
   rw[if_neg h1,if_neg (fun e=>h2 e.2),if_pos ⟨h6,h3⟩]
  ·have hdr:l.drop 6=[]:=List.drop_eq_nil_of_le (by omega)
   unfold rdS;rw[if_neg h1,if_neg (fun e=>h2 e.2),if_neg (fun e=>h6 e.1),hdr,snums_nil]
 have e2:rdS l=none:=by
  unfold rdS;rw[if_neg h1,if_neg (fun e=>h2 e.2),if_neg (fun e=>h3 e.2)]
 rw[e2];have hsp:=drop_split l;unfold rdI wds;cases hd:l.dropWhile isL with
 | nil=>
  simp only[];unfold cmdOf;rw[if_neg h1]
  by_cases hw:l=txWeigh
  ·subst hw
   simp[onlyOk,okC,cmdB,batchB]
  ·rw[if_neg hw]
   by_cases ha:l=txAsk
   ·rw[if_pos ha];simp[onlyOk]
   ·rw[if_neg ha]
 | cons c t=>
  simp only[]
  by_cases hc:c=32
  ·rw[if_pos hc]
   subst hc;rw[hd]at hsp;cases hi:inums t (.ahead []) with
   | none=>rfl
   | some ns=>
    simp only[Option.map_some];unfold cmdOf
    by_cases ha:l.takeWhile isL=txAsk
    ·exact absurd (by rw[hsp,ha];simp[txAsk]) h2
    by_cases hw:l.takeWhile isL=txWeigh
    ·exact absurd (by rw[hsp,hw];simp[txWeigh]) h3
    rw[if_neg hw,if_neg ha]
    by_cases hno:l.takeWhile isL=txNone
    ·rw[if_pos hno]
     by_cases h0:ns.length=0
     ·have:ns=[]:=List.length_eq_zero_iff.1 h0
      subst this;have hs:=(nums_zero.1 hi).1;exfalso
      have hlong:∀ (l cur:List UInt8),snums l [] cur≠some []:=by
       intro l
       induction l with
       | nil=>intro cur;simp[snums]
       | cons d u ih=>
        intro cur;unfold snums
        split
        ·cases hn:num1 cur with
         | none=>simp
         | some n=>
          simp only[];intro h;have:=(snums_pre u ([]++[n]) [] [] h).length_le;simp at this
        ·exact ih _
      exact hlong _ _ hs
     ·rw[if_neg h0]
    ·rw[if_neg hno]
  ·rw[if_neg hc]
end
section
open Go.RowKit
attribute [local go_sem ↓] Go.wp_at_zero Go.wp_at_succ
def Cut (l:List UInt8) (r:Int) (l':List UInt8):Prop:=
 match l with
 | []=>r = -1/\l'=[]
 | c :: t=>l'.length<=t.length/\((c.toNat<128/\r=(c.toNat:Int)/\l'=t)\/(128<=c.toNat/\128<=r/\r<=2147483647))
theorem Cut.bd {l l':List UInt8} {r:Int} (h:Cut l r l'):-1<=r/\r<=2147483647:=by
 cases l with
 | nil=>simp[Cut]at h;omega
 | cons c t=>
  obtain⟨_,h|h⟩:=h
  ·omega
  ·omega
theorem Cut.len {l l':List UInt8} {r:Int} (h:Cut l r l'):l'.length<=l.length/\(0<=r->l'.length<l.length):=by
 cases l with
 | nil=>simp[Cut]at h;simp[h]
 | cons c t=>
  have:=h.1;simp;omega
theorem width_pos (s:ByteArray) (pos:Nat) (h:pos<s.size):1<=(Utf8.decode s pos).2:=by
 by_cases ha:(s[pos]'h).toNat<128
 ·rw[decode_ascii s pos h ha]
  exact Nat.le_refl _
 ·exact (decode_high s pos h (by omega)).2
theorem iter_below (w:World) (s:ByteArray) (pos:Nat):Below w.heap.size w (w.iter s pos):=(Below.refl _ _).alloc nl _
theorem below_dn {B:Nat} {a w:World} (h:Below B a w) (n:Nat):Below B a (w.drewN n):=⟨h.os,h.tape,h.output,h.size,h.block⟩
theorem list_of (s:ByteArray) (h:0<s.size):s.data.toList=s[0] :: s.data.toList.tail:=by
 have h':0<s.data.toList.length:=by simpa using h
 have e:s[0]=s.data.toList[0]:=by simp;rfl
 rw[e]
 exact (fun (l:List UInt8) (h:0<l.length)=>show l=l[0] :: l.tail from by
  cases l with
  | nil=>simp at h
  | cons c t=>simp) s.data.toList h'
theorem cut_of (s:ByteArray) (h:0<s.size) (l':List UInt8) (h1:l'=s.data.toList.drop (Utf8.decode s 0).2):Cut s.data.toList ((Utf8.decode s 0).1:Int) l':=by
 have hw:=width_pos s 0 h;rw[list_of s h]at h1 ⊢;have hlen:s.data.toList.tail.length=s.size-1:=by simp
 by_cases ha:(s[0]'h).toNat<128
 ·rw[decode_ascii s 0 h ha]at h1 ⊢
  simp at h1;subst h1;exact⟨Nat.le_refl _,.inl ⟨ha,rfl,rfl⟩⟩
 ·have hd:=decode_high s 0 h (by omega)
  have hle:=decode_le s 0;refine⟨?_,.inr ⟨by omega,by omega,by omega⟩⟩;rw[h1,List.length_drop];simp only[List.length_cons];omega
theorem drop_extract (s:ByteArray) (k:Nat):(s.extract k s.size).data.toList=s.data.toList.drop k:=by
 simp[ByteArray.data_extract];exact List.take_of_length_le (by simp)
set_option maxHeartbeats 1000000 in
set_option maxRecDepth 20000 in
theorem cutRune_any (s:ByteArray) (hs:s.size<=1048576) (w:World):
  Calls Tryz.prog 112 #[.string s] w fun e w'=>∃ (r:Int) (t:ByteArray),e=.returned (.tuple #[.int .i32 r,.string t])/\Cut s.data.toList r t.data.toList/\Below w.heap.size w w':=by
 go_enter Tryz.func112,Tryz.ntmps112;go_wp2
 go_loopw [4] (fun f w'=>∃ pos:Nat,w'=w.iter s pos/\((pos=0/\f=.int .i32 (-1))\/(0<s.size/\pos=(Utf8.decode s 0).2/\f=.int .i32 (Utf8.decode s 0).1))) (fun _ w'=>s.size-w'.iterPos w.heap.size)
 case atStart=>exact⟨0,rfl,.inl ⟨rfl,rfl⟩⟩
 case round=>
  obtain⟨pos,rfl,h⟩:=hrel
  by_cases hp:pos<s.size
  ·have hnx:∀ ty,(Instr.next (.pointer (some ⟨w.heap.size,0,none⟩)) true ty).run Tryz.prog (w.iter s pos) = _:=fun ty=>run_next_any w s pos ty hp
   have hwd:=width_pos s pos hp;rcases h with ⟨rfl,rfl⟩|⟨h0,rfl,rfl⟩
   ·go_wp2
    go_roundw
    case rel=>exact⟨(Utf8.decode s 0).2,by simp,.inr ⟨hp,rfl,rfl⟩⟩
    case measure=>simp;omega
   ·have hw0:=width_pos s 0 h0
    have hpos:(0:Int)<((Utf8.decode s 0).2:Int):=by omega
    go_wp2
    go_quiet (fail)
    go_wp2
    go_ret2
    exact⟨_,_,rfl,cut_of s h0 _ (drop_extract s _),below_dn (iter_below _ _ _) _⟩
  ·have hnx:∀ ty,(Instr.next (.pointer (some ⟨w.heap.size,0,none⟩)) true ty).run Tryz.prog (w.iter s pos) = _:=fun ty=>run_next_end w s pos ty hp
   rcases h with ⟨rfl,rfl⟩|⟨h0,rfl,rfl⟩
   ·have hsz:s.size=0:=by omega
    have hl:s.data.toList=[]:=List.eq_nil_of_length_eq_zero (by simpa using hsz);go_wp2
    go_ret2
    exact⟨_,_,rfl,by rw[hl];exact⟨rfl,rfl⟩,iter_below _ _ _⟩
   ·go_wp2
    go_ret2
    exact⟨_,_,rfl,cut_of s h0 _ (by rw[List.drop_eq_nil_of_le (by simp;omega)]),iter_below _ _ _⟩
def digB (r:Int):Bool:=decide (48<=r)&&decide (r<=57)
theorem isDigit_any (r:Int) (w:World):
  Calls Tryz.prog 113 #[.int .i32 r] w fun e w'=>e=.returned (.bool (digB r))/\w'=w:=by
 by_cases h1:48<=r<;>by_cases h2:r<=57 <;>
 ·go_enter Tryz.func113,Tryz.ntmps113
  go_wp2;go_ret;exact⟨by simp[digB,h1,h2],rfl⟩
end
section
def NameAt (l rest:List UInt8):Prop:=∃ pre,l=pre++rest/\pre.all isL=true
theorem drop_pre {pre rest:List UInt8} (h:pre.all isL=true) (hr:∀ c t,rest=c :: t->isL c=false):(pre++rest).dropWhile isL=rest/\(pre++rest).takeWhile isL=pre:=by
 induction pre with
 | nil=>
  cases rest with
  | nil=>exact⟨rfl,rfl⟩
  | cons c t=>simp[hr c t rfl]
 | cons d u ih=>
  simp at h;obtain⟨h1,h2⟩:=ih (by simpa using h.2);simp[h.1,h1,h2]
theorem isL_iff {c:UInt8}:isL c=true↔97<=(c.toNat:Int)/\(c.toNat:Int)<=122:=by simp[isL];omega
theorem name_letter {l rest rest':List UInt8} {r:Int} (h:NameAt l rest) (hc:Cut rest r rest') (h1:97<=r) (h2:r<=122):NameAt l rest':=by
 obtain⟨pre,e,hp⟩:=h;cases rest with
 | nil=>simp[Cut]at hc;omega
 | cons c t=>
  rcases hc.2 with ⟨g1,g2,g3⟩|⟨g1,g2,_⟩
  ·subst g3
   exact⟨pre++[c],by rw[e];simp,by rw[List.all_append,hp];simp;exact isL_iff.2 (by omega)⟩
  ·omega
theorem name_end {l rest rest':List UInt8} (h:NameAt l rest) (hc:Cut rest (-1) rest'):wds l=some (l,[]):=by
 obtain⟨pre,e,hp⟩:=h;cases rest with
 | nil=>
  have:=drop_pre (rest:=[]) hp (fun c t h=>by cases h);rw[<-e]at this;unfold wds;rw[this.1]
 | cons c t=>
  rcases hc.2 with ⟨g1,g2,g3⟩|⟨g1,g2,_⟩
  ·omega
  ·omega
theorem name_blank {l rest rest':List UInt8} (h:NameAt l rest) (hc:Cut rest 32 rest'):wds l=(inums rest' (.ahead [])).map (fun ns=>(l.take (l.length-rest'.length-1),ns))/\rest'.length+1<=l.length:=by
 obtain⟨pre,e,hp⟩:=h;cases rest with
 | nil=>simp[Cut]at hc
 | cons c t=>
  rcases hc.2 with ⟨g1,g2,g3⟩|⟨g1,g2,_⟩
  ·subst g3
   have h32:c=32:=UInt8.toNat_inj.1 (by simp;omega);subst h32;have:=drop_pre (rest:=32 :: rest') hp (fun c t h=>by cases h;decide);rw[<-e]at this
   have hl:l.take (l.length-rest'.length-1)=pre:=by
    rw[e];have:(pre++32 :: rest').length-rest'.length-1=pre.length:=by simp;omega
    rw[this];simp
   refine⟨?_,by rw[e];simp⟩;rw[hl];unfold wds;rw[this.1,this.2];simp
  ·omega
theorem name_other {l rest rest':List UInt8} {r:Int} (h:NameAt l rest) (hc:Cut rest r rest') (h1:¬ (97<=r/\r<=122)) (h2:r≠32) (h3:r≠-1):wds l=none:=by
 obtain⟨pre,e,hp⟩:=h;cases rest with
 | nil=>simp[Cut]at hc;omega
 | cons c t=>
  have hl:isL c=false:=by
   cases hl:isL c with
   | false=>rfl
   | true=>
    have:=isL_iff.1 hl;rcases hc.2 with ⟨g1,g2,g3⟩|⟨g1,g2,_⟩
    ·omega
    ·omega
  have h32:c≠32:=by
   rintro rfl;rcases hc.2 with ⟨g1,g2,g3⟩|⟨g1,g2,_⟩
   ·simp at g2;omega
   ·simp at g1
  have:=drop_pre (rest:=c :: t) hp (fun d u h=>by cases h;exact hl);rw[<-e]at this;unfold wds;rw[this.1];simp[h32]
theorem ahead_cut {rest rest':List UInt8} {r:Int} {out:List Int} (hc:Cut rest r rest') (ho:out.length≠30):
  (r=48->inums rest (.ahead out)=inums rest' (.behind (out++[0])))/\(49<=r/\r<=57->inums rest (.ahead out)=inums rest' (.within (r-48) out))/\(¬ (48<=r/\r<=57)->inums rest (.ahead out)=none):=by
 cases rest with
 | nil=>
  simp[Cut]at hc;exact⟨fun h=>by omega,fun h=>by omega,fun _=>rfl⟩
 | cons c t=>
  have hi:inums (c :: t) (.ahead out)=if c=48 then inums t (.behind (out++[0])) else if isD c=true then inums t (.within (dg c) out) else none:=by simp[inums,ho]
  rw[hi];rcases hc.2 with ⟨g1,g2,g3⟩|⟨g1,g2,_⟩
  ·subst g3
   refine⟨fun h=>?_,fun h=>?_,fun h=>?_⟩
   ·have:c=48:=UInt8.toNat_inj.1 (by simp;omega)
    simp[this]
   ·have h48:c≠48:=fun e=>by rw[e]at g2;simp at g2;omega
    have hd:isD c=true:=by simp[isD];omega
    have hg:dg c=r-48:=by unfold dg;omega
    simp[h48,hd,hg]
   ·have h48:c≠48:=fun e=>by rw[e]at g2;simp at g2;omega
    have hd:isD c=false:=by simp[isD];omega
    simp[h48,hd]
  ·have h48:c≠48:=fun e=>by rw[e]at g1;simp at g1
   have hd:isD c=false:=by simp[isD];omega
   exact⟨fun h=>by omega,fun h=>by omega,fun h=>by simp[h48,hd]⟩
def bhd (r:Int) (rest:List UInt8) (out:List Int):Option (List Int):=if r=32 then inums rest (.ahead out) else if r = -1 then some out else none
theorem behind_cut {rest rest':List UInt8} {r:Int} {out:List Int} (hc:Cut rest r rest'):inums rest (.behind out)=bhd r rest' out:=by
 unfold bhd;cases rest with
 | nil=>
  simp[Cut]at hc;simp[hc,inums]
 | cons c t=>
  rcases hc.2 with ⟨g1,g2,g3⟩|⟨g1,g2,_⟩
  ·subst g3
   by_cases h:c=32
   ·subst h
    have:r=32:=by simpa using g2
    simp[inums,this]
   ·have h32:r≠32:=fun e=>h (UInt8.toNat_inj.1 (by simp;omega))
    have h1:r≠-1:=by omega
    simp[inums,h,h32,h1]
  ·have h:c≠32:=fun e=>by rw[e]at g1;simp at g1
   have h32:r≠32:=by omega
   have h1:r≠-1:=by omega
   simp[inums,h,h32,h1]
theorem within_cut {rest rest':List UInt8} {r n:Int} {out:List Int} (hc:Cut rest r rest'):
  (48<=r/\r<=57->inums rest (.within n out)=if 999999999<10*n+(r-48) then none else inums rest' (.within (10*n+(r-48)) out))/\(¬ (48<=r/\r<=57)->inums rest (.within n out)=bhd r rest' (out++[n])):=by
 unfold bhd;cases rest with
 | nil=>
  simp[Cut]at hc;exact⟨fun h=>by omega,fun h=>by simp[hc,inums]⟩
 | cons c t=>
  rcases hc.2 with ⟨g1,g2,g3⟩|⟨g1,g2,_⟩
  ·subst g3
   refine⟨fun h=>?_,fun h=>?_⟩
   ·have hd:isD c=true:=by simp[isD];omega
    have hg:dg c=r-48:=by unfold dg;omega
    simp[inums,hd,hg]
   ·have hd:isD c=false:=by simp[isD];omega
    by_cases h3:c=32
    ·subst h3
     have:r=32:=by simpa using g2
     simp[inums,hd,this]
    ·have h32:r≠32:=fun e=>h3 (UInt8.toNat_inj.1 (by simp;omega))
     have h1:r≠-1:=by omega
     simp[inums,hd,h3,h32,h1]
  ·have hd:isD c=false:=by simp[isD];omega
   have h3:c≠32:=fun e=>by rw[e]at g1;simp at g1
   have h32:r≠32:=by omega
   have h1:r≠-1:=by omega
   exact⟨fun h=>by omega,fun h=>by simp[inums,hd,h3,h32,h1]⟩
end
section
open Go
def jumps (J:Nat->Act->World->Prop) (Q:Exit->Act->World->Prop):Exit->Act->World->Prop
 | .goto l,a,w=>J l a w
 | e,a,w=>Q e a w
section
variable {P:Program} {a:Act} {w:World} {Q:Exit->Act->World->Prop}
theorem jumps_ret (J:Nat->Act->World->Prop):jumps J Q .ret a w=Q .ret a w:=rfl
theorem wp_mono' {c:Code} {Q':Exit->Act->World->Prop} (h:∀ e a w,Q e a w->Q' e a w) (hc:c.wp P Q a w):c.wp P Q' a w:=fun b k cs=>
 let ⟨e,a₁,w₁,hq,harr⟩:=hc b k cs
 ⟨e,a₁,w₁,h _ _ _ hq,harr⟩
theorem jumps_mono {J J':Nat->Act->World->Prop} (h:∀ l a w,J l a w->J' l a w):∀ e a w,jumps J Q e a w->jumps J' Q e a w
 | .goto l,a,w,hq=>h l a w hq
 | .normal,_,_,hq=>hq
 | .exit _,_,_,hq=>hq
 | .ret,_,_,hq=>hq
 | .panic _,_,_,hq=>hq
 | .outgrown,_,_,hq=>hq
theorem wp_scope_many {c:Code} (J:Nat->Act->World->Prop) (μ : Nat->Act->World->Nat) (R:Nat->Code) (hf:∀ l a w,J l a w->findLabel c l=some (R l))
  (first:c.wp P (jumps J Q) a w)
  (pass:∀ l a w,J l a w->(R l).wp P (jumps (fun l' a' w'=>J l' a' w'/\μ l' a' w' < μ l a w) Q) a w):(Code.scope c).wp P Q a w:=by
 intro b k cs;have hg:∀ l,findLabel c l=some (R l)->gotoIn l (.inScope c :: k)=some (.code (R l) :: .inScope c :: k):=fun l hf=>by simp[gotoIn,hf]
 have key:∀ n l a w,μ l a w=n->J l a w->∃ e a' w',Q e a' w'/\Arrives P (lone (b.at a (.code (R l) :: .inScope c :: k)) cs w) b k cs e a' w':=by
  intro n
  induction n using Nat.strongRecOn with
  | _ n ih=>
   intro l a w hn hJ;obtain⟨e,a₁,w₁,hq,harr⟩:=pass l a w hJ b (.inScope c :: k) cs;cases e with
   | normal=>exact⟨.normal,a₁,w₁,hq,Steps.trans harr (.one step_inScope)⟩
   | exit id=>exact⟨.exit id,a₁,w₁,hq,fun k' hk=>harr k' (by simp[exitTo,hk])⟩
   | goto l'=>
    obtain⟨hJ',hlt⟩:=hq;obtain⟨e₂,a₂,w₂,hq₂,harr₂⟩:=ih _ (by omega) l' a₁ w₁ rfl hJ';exact⟨e₂,a₂,w₂,hq₂,.of_steps (harr _ (hg l' (hf l' a₁ w₁ hJ'))) harr₂⟩
   | ret=>exact⟨_,a₁,w₁,hq,harr⟩
   | panic ch=>exact⟨_,a₁,w₁,hq,harr⟩
   | outgrown=>exact⟨_,a₁,w₁,hq,harr⟩
 obtain⟨e,a₁,w₁,hq,harr⟩:=first b (.inScope c :: k) cs;cases e with
 | normal=>exact⟨.normal,a₁,w₁,hq,.head step_scope (Steps.trans harr (.one step_inScope))⟩
 | exit id=>exact⟨.exit id,a₁,w₁,hq,fun k' hk=>.head step_scope (harr k' (by simp[exitTo,hk]))⟩
 | goto l'=>
  have hJ':J l' a₁ w₁ := hq;obtain⟨e₂,a₂,w₂,hq₂,harr₂⟩:=key _ l' a₁ w₁ rfl hJ';exact⟨e₂,a₂,w₂,hq₂,.of_steps (.head step_scope (harr _ (hg l' (hf l' a₁ w₁ hJ')))) harr₂⟩
 | ret=>exact⟨_,a₁,w₁,hq,.of_steps (.one step_scope) harr⟩
 | panic ch=>exact⟨_,a₁,w₁,hq,.of_steps (.one step_scope) harr⟩
 | outgrown=>exact⟨_,a₁,w₁,hq,.of_steps (.one step_scope) harr⟩
def lab5 (J0 J1 J2 J3 J4:Act->World->Prop):Nat->Act->World->Prop
 | 0=>J0
 | 1=>J1
 | 2=>J2
 | 3=>J3
 | 4=>J4
 | _=>fun _ _=>False
def cod5 (R0 R1 R2 R3 R4:Code):Nat->Code
 | 0=>R0
 | 1=>R1
 | 2=>R2
 | 3=>R3
 | _=>R4
def owes (J:Nat->Act->World->Prop) (μ : Nat->Act->World->Nat) (n:Nat) (l':Nat) (a':Act) (w':World):Prop:=J l' a' w'/\μ l' a' w'<n
theorem owes_mono {J:Nat->Act->World->Prop} {μ : Nat->Act->World->Nat} {n m:Nat} (h:n<=m):∀ l a w,owes J μ n l a w->owes J μ m l a w:=fun _ _ _ ⟨h1,h2⟩=>⟨h1,Nat.lt_of_lt_of_le h2 h⟩
theorem pass_on {c:Code} {J:Nat->Act->World->Prop} {μ : Nat->Act->World->Nat} {n m:Nat} (h:n<=m) (hc:c.wp P (jumps (owes J μ n) Q) a w):c.wp P (jumps (owes J μ m) Q) a w:=wp_mono' (jumps_mono (owes_mono h)) hc
theorem pass_in {c:Code} {J:Nat->Act->World->Prop} {μ : Nat->Act->World->Nat} {n:Nat} (hc:c.wp P (jumps (owes J μ n) Q) a w):c.wp P (jumps J Q) a w:=wp_mono' (jumps_mono (fun _ _ _ h=>h.1)) hc
theorem wp_scope5 {c R0 R1 R2 R3 R4:Code} (f0:findLabel c 0=some (Code.skip.seq R0)) (f1:findLabel c 1=some (Code.skip.seq R1)) (f2:findLabel c 2=some (Code.skip.seq R2)) (f3:findLabel c 3=some (Code.skip.seq R3)) (f4:findLabel c 4=some (Code.skip.seq R4))
  (J0 J1 J2 J3 J4:Act->World->Prop) (μ : Nat->Act->World->Nat)
  (p2:∀ a w,J2 a w->R2.wp P (jumps (owes (lab5 J0 J1 J2 J3 J4) μ (μ 2 a w)) Q) a w)
  (p3:(∀ a w,J2 a w->R2.wp P (jumps (owes (lab5 J0 J1 J2 J3 J4) μ (μ 2 a w)) Q) a w)->∀ a w,J3 a w->R3.wp P (jumps (owes (lab5 J0 J1 J2 J3 J4) μ (μ 3 a w)) Q) a w)
  (p4:(∀ a w,J3 a w->R3.wp P (jumps (owes (lab5 J0 J1 J2 J3 J4) μ (μ 3 a w)) Q) a w)->∀ a w,J4 a w->R4.wp P (jumps (owes (lab5 J0 J1 J2 J3 J4) μ (μ 4 a w)) Q) a w)
  (p1:(∀ a w,J4 a w->R4.wp P (jumps (owes (lab5 J0 J1 J2 J3 J4) μ (μ 4 a w)) Q) a w)->∀ a w,J1 a w->R1.wp P (jumps (owes (lab5 J0 J1 J2 J3 J4) μ (μ 1 a w)) Q) a w)
  (p0:∀ a w,J0 a w->R0.wp P (jumps (owes (lab5 J0 J1 J2 J3 J4) μ (μ 0 a w)) Q) a w)
  (first:(∀ a w,J0 a w->R0.wp P (jumps (owes (lab5 J0 J1 J2 J3 J4) μ (μ 0 a w)) Q) a w)->c.wp P (jumps (lab5 J0 J1 J2 J3 J4) Q) a w):(Code.scope c).wp P Q a w:=by
 refine wp_scope_many (lab5 J0 J1 J2 J3 J4) μ (cod5 (Code.skip.seq R0) (Code.skip.seq R1) (Code.skip.seq R2) (Code.skip.seq R3) (Code.skip.seq R4)) (fun l a w h=>?_) (first p0) (fun l a w h=>?_)
 ·match l,h with
  | 0,_=>exact f0
  | 1,_=>exact f1
  | 2,_=>exact f2
  | 3,_=>exact f3
  | 4,_=>exact f4
  | _+5,h=>exact h.elim
 ·match l,h with
  | 0,h=>exact wp_seq (wp_skip (p0 a w h))
  | 1,h=>exact wp_seq (wp_skip (p1 (p4 (p3 p2)) a w h))
  | 2,h=>exact wp_seq (wp_skip (p2 a w h))
  | 3,h=>exact wp_seq (wp_skip (p3 p2 a w h))
  | 4,h=>exact wp_seq (wp_skip (p4 (p3 p2) a w h))
  | _+5,h=>exact h.elim
end
end
section
open Go.RowKit
attribute [local go_sem ↓] Go.wp_at_zero Go.wp_at_succ
def IRow (w:World) (ao:Option Addr) (n:Nat) (f:Nat->Int):Prop:=∀ k,k<n->∃ b o,ao=some ⟨b,o,none⟩/\w.cell? ⟨b,o+k,none⟩=some (.int .i64 (f k))
theorem IRow.below {w w':World} {B:Nat} {ao:Option Addr} {n:Nat} {f:Nat->Int} (h:IRow w ao n f) (hb:Below B w w') (hB:w.heap.size<=B):IRow w' ao n f:=fun k hk=>by
 obtain⟨b,o,e,c0⟩:=h k hk;have hlt:=lt_of_cell c0;exact⟨b,o,e,by rw[hb.cell (by simp;omega)];exact c0⟩
theorem IRow.alloc {w:World} {ao:Option Addr} {n:Nat} {f:Nat->Int} (h:IRow w ao n f) (o:Obj):IRow (w.alloc o) ao n f:=h.below ((Below.refl w.heap.size w).alloc nl o) nl
theorem IRow.congr {w:World} {ao:Option Addr} {n:Nat} {f g:Nat->Int} (h:IRow w ao n f) (e:∀ k,k<n->f k=g k):IRow w ao n g:=fun k hk=>by
 obtain⟨b,o,h1,h2⟩:=h k hk;exact⟨b,o,h1,by rw[h2,e k hk]⟩
def IHas (w:World) (b n:Nat) (f:Nat->Int):Prop:=∃ cur:Array Value,w.heap[b]?=some (.cells cur 2 (0,0))/\n<=cur.size/\∀ j,j<n->cur[j]?=some (.int .i64 (f j))
theorem IHas.cell {w:World} {b n:Nat} {f:Nat->Int} (h:IHas w b n f) {j:Nat} (hj:j<n):w.cell? ⟨b,j,none⟩=some (.int .i64 (f j)):=by
 obtain⟨c,hb,_,hc⟩:=h;simp[World.cell?,hb,hc j hj]
theorem IHas.frozen {w:World} {b n:Nat} {f:Nat->Int} (h:IHas w b n f) (j:Nat):w.frozen? ⟨b,j,none⟩=false:=by
 obtain⟨c,hb,_,_⟩:=h;simp[World.frozen?,hb]
theorem IHas.lt {w:World} {b n:Nat} {f:Nat->Int} (h:IHas w b n f):b<w.heap.size:=by
 obtain⟨c,hb,_,_⟩:=h;exact (Array.getElem?_eq_some_iff.1 hb).1
theorem IHas.of_block {w w':World} {b n:Nat} {f:Nat->Int} (h:IHas w b n f) (e:w'.heap[b]?=w.heap[b]?):IHas w' b n f:=by
 obtain⟨c,hb,hn,hc⟩:=h;exact⟨c,e.trans hb,hn,hc⟩
theorem IHas.congr {w:World} {b n:Nat} {f g:Nat->Int} (h:IHas w b n f) (e:∀ j,j<n->f j=g j):IHas w b n g:=by
 obtain⟨c,hb,hn,hc⟩:=h;exact⟨c,hb,hn,fun j hj=>by rw[hc j hj,e j hj]⟩
theorem IHas.set {w:World} {b n:Nat} {f:Nat->Int} (h:IHas w b n f) (i:Nat) (v:Int):IHas (w.setCell ⟨b,i,none⟩ (.int .i64 v)) b n (fun j=>if j=i then v else f j):=by
 obtain⟨c,hb,hn,hc⟩:=h;refine⟨c.setIfInBounds i (.int .i64 v),?_,by simpa using hn,fun j hj=>?_⟩
 ·simp[World.setCell,Array.getElem?_modify,hb]
 ·rw[Array.getElem?_setIfInBounds]
  by_cases e:j=i
  ·subst e
   simp;omega
  ·rw[if_neg (fun h=>e h.symm)]
   show c[j]?=some (.int .i64 (if j=i then v else f j))
   rw[if_neg e];exact hc j hj
theorem IHas.row {w:World} {b n:Nat} {f:Nat->Int} (h:IHas w b n f):IRow w (some ⟨b,0,none⟩) n f:=fun k hk=>⟨b,0,rfl,by simpa using h.cell hk⟩
theorem IHas.below {w w':World} {b n B:Nat} {f:Nat->Int} (h:IHas w b n f) (hb:Below B w w') (hB:b<B):IHas w' b n f:=h.of_block (hb.block b hB)
theorem IHas.grown {w w':World} {b n:Nat} {f:Nat->Int} {row:Option Nat} (h:IHas w b n f) (hg:w.grownBy w' row) (hne:some b≠row):IHas w' b n f:=h.of_block (hg.block b h.lt hne)
theorem IHas.of_row {w:World} {b n:Nat} {f:Nat->Int} (h:w.rowIs b 2 n (fun j=>.int .i64 (f j))):IHas w b n f:=by
 obtain⟨c,hb,hn,hc⟩:=h;exact⟨c,hb,by omega,hc⟩
theorem Tryz.infoInt:(Tryz.prog.info? 2).map (fun i=>(i.zero,i.size,i.bytes))=some (some (.int .i64 0),1,8):=by kernel_rfl
theorem make_ints (n:Nat) (hn:n<=1048576) (w:World):
  (Instr.makeSlice 25 (.int .i64 (n:Int)) (.int .i64 (n:Int))).run Tryz.prog w=.ok (.slice (some ⟨w.heap.size,0,none⟩) n n) (w.alloc (.cells (madeCells #[.int .i64 0] n) 2)):=
 run_make_row' 25 2 _ 8 Tryz.underlying25 Tryz.infoInt rfl .i64 .i64 n (by omega) (by omega) w
end
section
open Go.RowKit
def icells (f:Nat->Int) (n:Nat):List Value:=(List.range n).map fun j=>.int .i64 (f j)
theorem icells_at {f:Nat->Int} {n j:Nat} (hj:j<n):(icells f n)[j]?=some (.int .i64 (f j)):=by
 rw[icells,List.getElem?_map,List.getElem?_range hj];rfl
theorem icells_len (f:Nat->Int) (n:Nat):(icells f n).length=n:=by simp[icells]
theorem icells_congr {f g:Nat->Int} {n:Nat} (h:∀ j,j<n->f j=g j):icells f n=icells g n:=by
 apply List.ext_getElem?;intro j
 by_cases hj:j<n
 ·rw[icells_at hj,icells_at hj,h j hj]
 ·rw[List.getElem?_eq_none (by rw[icells_len];omega),List.getElem?_eq_none (by rw[icells_len];omega)]
theorem icells_put {f g:Nat->Int} {n:Nat} (v:Int) (h1:∀ j,j<n->f j=g j) (h2:g n=v):icells f n++[.int .i64 v]=icells g (n+1):=by
 rw[icells_congr h1];simp[icells,List.range_succ,h2]
def IOwn (w:World) (base g cap n:Nat) (f:Nat->Int):Prop:=w.ownsRow base 2 1 (.slice (some ⟨g,0,none⟩) n cap) n (icells f n)
theorem IOwn.has {w:World} {base g cap n:Nat} {f:Nat->Int} (h:IOwn w base g cap n f):IHas w g n f:=by
 obtain⟨hl,h0|⟨g',cap',cur,hv,hb,hh,h1,h2,h3,h4⟩⟩:=h
 ·simp at h0
 ·simp at hv
  obtain⟨rfl,rfl⟩:=hv;refine⟨cur,hh,by omega,fun j hj=>?_⟩;have:(cur.toList.take (n*1))[j]?=(icells f n)[j]?:=by rw[h4]
  rw[List.getElem?_take_of_lt (by omega),icells_at hj]at this;simpa using this
theorem IOwn.base {w:World} {base g cap n:Nat} {f:Nat->Int} (h:IOwn w base g cap n f):base<=g:=(World.ownsRow.lt h g rfl).1
theorem IOwn.congr {w:World} {base g cap n:Nat} {f f':Nat->Int} (h:IOwn w base g cap n f) (e:∀ j,j<n->f j=f' j):IOwn w base g cap n f':=by
 unfold IOwn at h ⊢;rw[<-icells_congr e];exact h
theorem IOwn.below {w w':World} {base g cap n B:Nat} {f:Nat->Int} (h:IOwn w base g cap n f) (hb:Below B w w') (hB:g<B):IOwn w' base g cap n f:=by
 refine⟨h.1,?_⟩;rcases h.2 with hn|⟨g',cap',cur,hv,hb',hgg,rest⟩
 ·exact .inl hn
 ·simp at hv
  obtain⟨rfl,rfl⟩:=hv;exact .inr ⟨g,cap,cur,rfl,hb',(hb.block g hB).trans hgg,rest⟩
theorem IOwn.lt {w:World} {base g cap n:Nat} {f:Nat->Int} (h:IOwn w base g cap n f):g<w.heap.size:=(World.ownsRow.lt h g rfl).2
theorem IOwn.grown {w w':World} {base g cap n:Nat} {f:Nat->Int} {b:Nat} (h:IOwn w base g cap n f) (hg:w.grownBy w' (some b)) (hne:g≠b):IOwn w' base g cap n f:=by
 refine⟨h.1,?_⟩;rcases h.2 with hn|⟨g',cap',cur,hv,hb',hgg,rest⟩
 ·exact .inl hn
 ·simp at hv
  obtain⟨rfl,rfl⟩:=hv;exact .inr ⟨g,cap,cur,rfl,hb',(hg.block g h.lt (by simp;exact hne)).trans hgg,rest⟩
theorem IOwn.empty (w:World) {base:Nat} (hb:base<=w.heap.size) (f:Nat->Int):IOwn (w.alloc (.cells #[] 2)) base w.heap.size 0 0 f:=by
 have:=World.ownsRow_lit (base:=base) (e:=2) (size:=1) w #[] 0 hb (by simp) (by simp);simpa[IOwn,icells] using this
theorem wpList_append_int {w:World} {ops:Array Oper} {rest:List Oper} {o:Oper} {a:Act} {Q:Exit->Act->World->Prop} (hgd:o.guard=none) (s x:Operand)
  (ho:o.op=.call { callee:=.builtin .append,args:=#[s,x],argTypes:=#[25,25] }) (base g cap n:Nat) (f:Nat->Int) (hs:a.eval s=.slice (some ⟨g,0,none⟩) n cap)
  (hown:IOwn w base g cap n f) (ad:Addr) (c:Nat) (v:Int) (hx:a.eval x=.slice (some ad) 1 c) (h0:w.cell? (ad.add 0)=some (.int .i64 v)) (hn:n<=1000000000) (hbase:base<=w.heap.size)
  (h:∀ g' cap' w',(∀ f',(∀ j,j<n->f' j=f j)->f' n=v->IOwn w' base g' cap' (n+1) f')->w.grownBy w' (some g)->(g'=g\/g'=w.heap.size)->wpList Tryz.prog ops Q rest (a.put o.dst (.slice (some ⟨g',0,none⟩) (n+1) cap')) w'):wpList Tryz.prog ops Q (o :: rest) a w:=by
 obtain⟨i,hi,hz0,hz1,hz2⟩:=info_parts Tryz.infoInt;refine wpList_append_lies w hgd s x 25 ho base 2 i _ 1 8 Tryz.underlying25 hi hz0 hz1 hz2 rfl (by omega) _ n (icells f n) hs hown ad 1 c [.int .i64 v] hx rfl ?_ ?_ (by omega) (by unfold maxLen;omega) (by omega) hbase w.heap.size rfl ?_
 ·intro j u hu
  match j,hu with
  | 0,hu=>simp at hu;subst hu;exact h0
  | j+1,hu=>simp at hu
 ·intro u hu
  simp at hu;subst hu;rfl
 ·intro g' cap' w' hown' hgrow hat hlt
  refine h g' cap' w' (fun f' e1 e2=>?_) hgrow ?_
  ·rw[icells_put v (fun j hj=>(e1 j hj).symm) e2]at hown'
   exact hown'
  ·rcases hat with e|e
   ·simp[Value.ownBlock]at e;exact Or.inl e.symm
   ·exact Or.inr e
def OwnE (w:World) (base:Nat) (go:Option Addr) (n cap:Nat) (f:Nat->Int):Prop:=w.ownsRow base 2 1 (.slice go n cap) n (icells f n)
theorem OwnE.nil (w:World) (base:Nat) (f:Nat->Int):OwnE w base none 0 0 f:=⟨by simp[icells],.inl ⟨rfl,rfl⟩⟩
theorem OwnE.at {w:World} {base n cap x:Nat} {go:Option Addr} {f:Nat->Int} (h:OwnE w base go n cap f) (e:(Value.slice go n cap).ownBlock=some x):base<=x/\x<w.heap.size:=World.ownsRow.lt h x e
theorem OwnE.of_block {w w':World} {base n cap:Nat} {go:Option Addr} {f:Nat->Int} (h:OwnE w base go n cap f) (e:∀ x,(Value.slice go n cap).ownBlock=some x->w'.heap[x]?=w.heap[x]?):OwnE w' base go n cap f:=by
 refine⟨h.1,?_⟩;rcases h.2 with hn|⟨g',cap',cur,hv,hb',hgg,rest⟩
 ·exact .inl hn
 ·have e2:=e g' (by rw[hv];rfl)
  exact .inr ⟨g',cap',cur,hv,hb',e2.trans hgg,rest⟩
theorem OwnE.next {w w':World} {base n cap:Nat} {go:Option Addr} {f:Nat->Int} (h:OwnE w base go n cap f) (hb:Below w.heap.size w w'):OwnE w' base go n cap f:=h.of_block (fun x e=>hb.block x (h.at e).2)
theorem OwnE.grown {w w':World} {base n cap:Nat} {go:Option Addr} {f:Nat->Int} {row:Option Nat} (h:OwnE w base go n cap f) (hg:w.grownBy w' row) (hne:∀ x,(Value.slice go n cap).ownBlock=some x->row≠some x):OwnE w' base go n cap f:=h.of_block (fun x e=>hg.block x (h.at e).2 (fun q=>hne x e q.symm))
theorem OwnE.has {w:World} {base n cap:Nat} {go:Option Addr} {f:Nat->Int} (h:OwnE w base go n cap f) (hn:0<n):∃ g,go=some ⟨g,0,none⟩/\base<=g/\IHas w g n f:=by
 have h':=h;obtain⟨hl,h0|⟨g',cap',cur,hv,hb,hh,h1,h2,h3,h4⟩⟩:=h
 ·omega
 ·simp at hv
  obtain⟨rfl,rfl⟩:=hv;refine⟨g',rfl,hb,cur,hh,by omega,fun j hj=>?_⟩;have:(cur.toList.take (n*1))[j]?=(icells f n)[j]?:=by rw[h4]
  rw[List.getElem?_take_of_lt (by omega),icells_at hj]at this;simpa using this
theorem wp_append_own {o:Oper} {a:Act} {w:World} {K:Act->World->Prop} {Q:Exit->Act->World->Prop} (s x:Operand)
  (ho:o.op=.call { callee:=.builtin .append,args:=#[s,x],argTypes:=#[25,25] }) (base k gc:Nat) (go:Option Addr) (f:Nat->Int) (hs:a.eval s=.slice go k gc) (hown:OwnE w base go k gc f) (B:Nat) (hx:a.eval x=.slice (some ⟨B,0,none⟩) 1 1)
  (hB:w.cell? ⟨B,0,none⟩=some (.int .i64 (f k))) (hk:k<=100000000) (hbase:base<=w.heap.size)
  (h:∀ g' gc' w',OwnE w' base (some ⟨g',0,none⟩) (k+1) gc' f->w.grownBy w' (Value.slice go k gc).ownBlock->((Value.slice go k gc).ownBlock=some g'\/g'=w.heap.size)->K (a.put o.dst (.slice (some ⟨g',0,none⟩) (k+1) gc')) w'):o.wp Tryz.prog a w K Q:=by
 obtain⟨i0,hi0,hz0,hz1,hz2⟩:=info_parts Tryz.infoInt;refine wp_append_lies w s x 25 ho base 2 i0 _ 1 8 Tryz.underlying25 hi0 hz0 hz1 hz2 rfl (by omega) _ k (icells f k) hs hown ⟨B,0,none⟩ 1 1 [.int .i64 (f k)] hx rfl ?_ ?_ (by omega) (by unfold maxLen;omega) (by omega) hbase w.heap.size rfl ?_
 ·intro j u hu
  match j,hu with
  | 0,hu=>simp at hu;subst hu;exact hB
  | j+1,hu=>simp at hu
 ·intro u hu
  simp at hu;subst hu;rfl
 ·intro g' gc' w' hown' hgrow hat _
  rw[icells_put (f k) (fun _ _=>rfl) rfl]at hown';exact h g' gc' w' hown' hgrow hat
end
section
open Go.RowKit
attribute [local go_sem ↓] Go.wp_at_zero Go.wp_at_succ
def ret2 (v:Option Int):Value:=.tuple #[.int .i64 (v.getD 0),.bool v.isSome]
theorem toL (s:ByteArray) (k:Nat) (h:k<s.size):s.data.toList[k]?=some s[k]:=by
 rw[List.getElem?_eq_getElem (by simpa using h)];rfl
theorem take_nx {s:ByteArray} {d:List UInt8} {o j:Nat} (HT:Hid (∀ j (h:o+j<s.size),d[j]?=some s[o+j])) (h:o+j<s.size):d.take (j+1)=d.take j++[s[o+j]]:=by
 rw[List.take_add_one,HT.out j h];rfl
theorem take_nx0 {s:ByteArray} {d:List UInt8} {j:Nat} (HT:Hid (∀ j (h:j<s.size),d[j]?=some s[j])) (h:j<s.size):d.take (j+1)=d.take j++[s[j]]:=by
 rw[List.take_add_one,HT.out j h];rfl
theorem drop_at (s:ByteArray) (o j:Nat) (h:o+j<s.size):(s.data.toList.drop o)[j]?=some s[o+j]:=by
 rw[List.getElem?_drop];exact toL s (o+j) h
theorem take_next (s:ByteArray) (o j:Nat) (h:o+j<s.size):(s.data.toList.drop o).take (j+1)=(s.data.toList.drop o).take j++[s[o+j]]:=by
 rw[List.take_add_one,drop_at s o j h];rfl
theorem isD_iff {c:UInt8}:isD c=true↔48<=(c.toNat:Int)/\(c.toNat:Int)<=57:=by simp[isD];omega
theorem all_no {l:List UInt8} {j:Nat} {c:UInt8} (h:l[j]?=some c) (hc:isD c=false):l.all isD=false:=by
 rw[List.all_eq_false];exact⟨c,List.mem_of_getElem? h,by simp[hc]⟩
theorem pow10_le {j:Nat} (h:j<=9):(10:Int) ^ j<=1000000000:=by
 have:j=0\/j=1\/j=2\/j=3\/j=4\/j=5\/j=6\/j=7\/j=8\/j=9:=by omega
 rcases this with rfl|rfl|rfl|rfl|rfl|rfl|rfl|rfl|rfl|rfl<;>decide
theorem val_lt:∀ (l:List UInt8) (n:Int),l.all isD=true->0<=n->l.foldl (fun n c=>n*10+dg c) n<(n+1)*(10:Int) ^ l.length
 | [],n,_,_=>by simp;omega
 | c :: t,n,h,h0=>by
  simp at h;have hd:=dg_bd h.1;have h2:=val_lt t (n*10+dg c) (by simpa using h.2) (by omega);simp only[List.foldl_cons,List.length_cons];have hp:(0:Int)<=(10:Int) ^ t.length:=Int.pow_nonneg (by decide);have e2:(n+1)*(10:Int) ^ (t.length+1)=((n+1)*10)*(10:Int) ^ t.length:=by rw[Int.pow_succ,Int.mul_comm ((10:Int) ^ t.length) 10,<-Int.mul_assoc]
  have m2:(n*10+dg c+1)*(10:Int) ^ t.length<=((n+1)*10)*(10:Int) ^ t.length:=Int.mul_le_mul_of_nonneg_right (by omega) hp;rw[e2];omega
theorem val_bd {l:List UInt8} (h:l.all isD=true) (hl:l.length<=9):0<=val l/\val l<1000000000:=by
 have h1:=val_lt l 0 h (Int.le_refl _);have h2:=pow10_le hl;have h0:=val_nonneg h;unfold val at h0 ⊢;omega
set_option maxHeartbeats 2000000 in
set_option maxRecDepth 20000 in
theorem l1Number_neg (s:ByteArray) (hs:s.size<=1048576) (hne:0<s.size) (h45:s[0]=45) (d:List UInt8) (HL:Hid (d.length=s.size-1)) (HT:Hid (∀ j (h:1+j<s.size),d[j]?=some s[1+j])) (w:World):
  Calls Tryz.prog 116 #[.string s] w fun e w'=>e=.returned (ret2 (numD true d))/\w'=w:=by
 have hse:s.toList.isEmpty=false:=by
  rw[ByteArray.toList_eq,List.isEmpty_eq_false_iff];intro e;have h0:s.data.toList.length=0:=by rw[e];rfl
  have h9:s.data.toList.length=s.size:=by simp
  omega
 have hc0:(s[0].toNat:Int)=45:=by
  rw[h45];rfl
 by_cases hsh:s.size-1<1\/9<s.size-1
 ·have hn:numD true d=none:=by
   unfold numD;rw[if_pos (by rw[HL.out];omega)]
  rw[hn];rcases hsh with hsh|hsh
  ·have h1:(s.size:Int)-1<1:=by omega
   go_enter Tryz.func116,Tryz.ntmps116;go_wp2
   go_ret2
   exact⟨rfl,rfl⟩
  ·have h1:¬ (s.size:Int)-1<1:=by omega
   have h2:9<(s.size:Int)-1:=by omega
   go_enter Tryz.func116,Tryz.ntmps116;go_wp2
   go_ret2
   exact⟨rfl,rfl⟩
 have h1:¬ (s.size:Int)-1<1:=by omega
 have h2:¬ 9<(s.size:Int)-1:=by omega
 go_enter Tryz.func116,Tryz.ntmps116;go_wp2
 go_loop [6,7] (fun n k=>∃ j:Nat,1+j<=s.size/\k=.int .i64 (((1+j:Nat)):Int)/\(d.take j).all isD=true/\n=.int .i64 (val (d.take j))) (fun _ k=>s.size-(intOf k).toNat)
 case atStart=>exact⟨0,by omega,rfl,by simp,by simp[val]⟩
 case round=>
  obtain⟨j,hj,rfl,hall,rfl⟩:=hrel;obtain⟨v0,v1⟩:=val_bd hall (by rw[List.length_take,HL.out];omega);have HA:Hid ((d.take j).all isD=true):=hall;clear hall
  by_cases hlt:1+j<s.size
  ·have hc:s[1+j].toNat<256:=s[1+j].toNat_lt
   have hlt':((1+j:Nat):Int)<(s.size:Int):=by omega
   have hk0:(0:Int)<=((1+j:Nat):Int):=by omega
   cases hd:isD s[1+j] with
   | true=>
    obtain⟨d1,d2⟩:=isD_iff.1 hd;have e1:=take_nx HT hlt
    have HV:Hid (val (d.take (j+1))=val (d.take j)*10+((s[1+j].toNat:Int)-48)):=by
     show _ = _
     rw[e1,val_snoc];rfl
    have HB:Hid ((d.take (j+1)).all isD=true):=by
     show _ = _
     rw[e1];exact all_snoc.2 ⟨HA.out,hd⟩
    clear e1;go_wp2
    go_round
    case rel=>exact⟨j+1,by omega,by go_num,HB.out,by rw[HV.out]⟩
    case measure=>simp[intOf];omega
   | false=>
    have hn:numD true d=none:=by
     unfold numD
     split
     ·rfl
     rw[if_pos (all_no (HT.out j hlt) hd)]
    have HN:Hid (numD true d=none):=hn;clear hn
    by_cases c1:(s[1+j].toNat:Int)<48
    ·go_wp2
     go_ret2
     exact⟨by rw[HN.out];rfl,rfl⟩
    ·have c2:57<(s[1+j].toNat:Int):=by
      by_cases h:(s[1+j].toNat:Int)<=57
      ·rw[isD_iff.2 ⟨by omega,h⟩]at hd
       cases hd
      ·omega
     go_wp2
     go_ret2
     exact⟨by rw[HN.out];rfl,rfl⟩
  ·have ht:d.take j=d:=List.take_of_length_le (by rw[HL.out];omega)
   have hh:d.head?=some s[1]:=by
    rw[List.head?_eq_getElem?];exact HT.out 0 (by omega)
   have hall:=HA.out;rw[ht]at v0 v1 hall ⊢
   have HNN:Hid (numD true d=if s[1]=48/\(true=true\/1<s.size-1) then none else some (if true=true then-val d else val d)):=by
    show _ = _
    unfold numD;rw[if_neg (by rw[HL.out];omega),if_neg (by rw[hall];simp),hh,HL.out];simp
   have hlt':¬ ((1+j:Nat):Int)<(s.size:Int):=by omega
   have hc:s[1].toNat<256:=s[1].toNat_lt;clear ht HA hh hall
   by_cases h48:s[1]=48
   ·have hz:(s[1].toNat:Int)=48:=by rw[h48];rfl
    go_wp2
    go_ret2
    exact⟨by rw[HNN.out,if_pos (by simp[h48])];rfl,rfl⟩
   ·have hz:¬ (s[1].toNat:Int)=48:=fun e=>h48 (UInt8.toNat_inj.1 (by simp;omega))
    have hz':((s[1].toNat:Int)==48)=false:=by simpa using hz
    go_wp2
    go_ret2
    exact⟨by rw[HNN.out,if_neg (fun e=>h48 e.1)];rfl,rfl⟩
set_option maxHeartbeats 2000000 in
set_option maxRecDepth 20000 in
theorem l1Number_pos (s:ByteArray) (hs:s.size<=1048576) (hne:0<s.size) (h45:s[0]≠45) (d:List UInt8) (HL:Hid (d.length=s.size-0)) (HT:Hid (∀ j (h:j<s.size),d[j]?=some s[j])) (w:World):
  Calls Tryz.prog 116 #[.string s] w fun e w'=>e=.returned (ret2 (numD false d))/\w'=w:=by
 have hse:s.toList.isEmpty=false:=by
  rw[ByteArray.toList_eq,List.isEmpty_eq_false_iff];intro e;have h0:s.data.toList.length=0:=by rw[e];rfl
  have h9:s.data.toList.length=s.size:=by simp
  omega
 have hc0:(s[0].toNat:Int)≠45:=by
  intro e;exact h45 (UInt8.toNat_inj.1 (by simp;omega))
 have hc0b:((s[0].toNat:Int)==45)=false:=by simpa using hc0
 by_cases hsh:s.size-0<1\/9<s.size-0
 ·have hn:numD false d=none:=by
   unfold numD;rw[if_pos (by rw[HL.out];omega)]
  rw[hn];rcases hsh with hsh|hsh
  ·have h1:(s.size:Int)<1:=by omega
   go_enter Tryz.func116,Tryz.ntmps116;go_wp2
   go_ret2
   exact⟨rfl,rfl⟩
  ·have h1:¬ (s.size:Int)<1:=by omega
   have h2:9<(s.size:Int):=by omega
   go_enter Tryz.func116,Tryz.ntmps116;go_wp2
   go_ret2
   exact⟨rfl,rfl⟩
 have h1:¬ (s.size:Int)<1:=by omega
 have h2:¬ 9<(s.size:Int):=by omega
 go_enter Tryz.func116,Tryz.ntmps116;go_wp2
 go_loop [6,7] (fun n k=>∃ j:Nat,j<=s.size/\k=.int .i64 (j:Int)/\(d.take j).all isD=true/\n=.int .i64 (val (d.take j))) (fun _ k=>s.size-(intOf k).toNat)
 case atStart=>exact⟨0,by omega,rfl,by simp,by simp[val]⟩
 case round=>
  obtain⟨j,hj,rfl,hall,rfl⟩:=hrel;obtain⟨v0,v1⟩:=val_bd hall (by rw[List.length_take,HL.out];omega);have HA:Hid ((d.take j).all isD=true):=hall;clear hall
  by_cases hlt:j<s.size
  ·have hc:s[j].toNat<256:=s[j].toNat_lt
   have hlt':((j:Nat):Int)<(s.size:Int):=by omega
   have hk0:(0:Int)<=((j:Nat):Int):=by omega
   cases hd:isD s[j] with
   | true=>
    obtain⟨d1,d2⟩:=isD_iff.1 hd;have e1:=take_nx0 HT hlt
    have HV:Hid (val (d.take (j+1))=val (d.take j)*10+((s[j].toNat:Int)-48)):=by
     show _ = _
     rw[e1,val_snoc];rfl
    have HB:Hid ((d.take (j+1)).all isD=true):=by
     show _ = _
     rw[e1];exact all_snoc.2 ⟨HA.out,hd⟩
    clear e1;go_wp2
    go_round
    case rel=>exact⟨j+1,by omega,by go_num,HB.out,by rw[HV.out]⟩
    case measure=>simp[intOf];omega
   | false=>
    have hn:numD false d=none:=by
     unfold numD
     split
     ·rfl
     rw[if_pos (all_no (HT.out j hlt) hd)]
    have HN:Hid (numD false d=none):=hn;clear hn
    by_cases c1:(s[j].toNat:Int)<48
    ·go_wp2
     go_ret2
     exact⟨by rw[HN.out];rfl,rfl⟩
    ·have c2:57<(s[j].toNat:Int):=by
      by_cases h:(s[j].toNat:Int)<=57
      ·rw[isD_iff.2 ⟨by omega,h⟩]at hd
       cases hd
      ·omega
     go_wp2
     go_ret2
     exact⟨by rw[HN.out];rfl,rfl⟩
  ·have ht:d.take j=d:=List.take_of_length_le (by rw[HL.out];omega)
   have hh:d.head?=some s[0]:=by
    rw[List.head?_eq_getElem?];exact HT.out 0 (by omega)
   have hall:=HA.out;rw[ht]at v0 v1 hall ⊢
   have HNN:Hid (numD false d=if s[0]=48/\(false=true\/1<s.size-0) then none else some (if false=true then-val d else val d)):=by
    show _ = _
    unfold numD;rw[if_neg (by rw[HL.out];omega),if_neg (by rw[hall];simp),hh,HL.out];simp
   have hlt':¬ ((j:Nat):Int)<(s.size:Int):=by omega
   have hc:s[0].toNat<256:=s[0].toNat_lt;clear ht HA hh hall
   by_cases h48:s[0]=48
   ·have hz:(s[0].toNat:Int)=48:=by rw[h48];rfl
    by_cases hl1:1<s.size
    ·have hl1':(1:Int)<(s.size:Int):=by omega
     go_wp2
     go_ret2
     exact⟨by rw[HNN.out,if_pos ⟨h48,.inr (by omega)⟩];rfl,rfl⟩
    ·have hl1':¬ (1:Int)<(s.size:Int):=by omega
     go_wp2
     go_ret2
     exact⟨by rw[HNN.out,if_neg (by rintro⟨_,h|h⟩;cases h;omega)];rfl,rfl⟩
   ·have hz:¬ (s[0].toNat:Int)=48:=fun e=>h48 (UInt8.toNat_inj.1 (by simp;omega))
    have hz':((s[0].toNat:Int)==48)=false:=by simpa using hz
    go_wp2
    go_ret2
    exact⟨by rw[HNN.out,if_neg (fun e=>h48 e.1)];rfl,rfl⟩
theorem head0 (s:ByteArray) (h:0<s.size):s.data.toList.head?=some s[0]:=by
 rw[List.head?_eq_getElem?];exact toL s 0 h
theorem l1Number_any (s:ByteArray) (hs:s.size<=1048576) (w:World):
  Calls Tryz.prog 116 #[.string s] w fun e w'=>e=.returned (ret2 (num1 s.data.toList))/\w'=w:=by
 by_cases hne:0<s.size
 ·by_cases h45:s[0]=45
  ·have e:num1 s.data.toList=numD true (s.data.toList.drop 1):=by
    unfold num1;rw[if_pos (by rw[head0 s hne,h45]),<-List.drop_one]
   rw[e];exact l1Number_neg s hs hne h45 _ (by show _ = _;simp) (fun j h=>drop_at s 1 j h) w
  ·have e:num1 s.data.toList=numD false (s.data.toList.drop 0):=by
    unfold num1;rw[if_neg (by rw[head0 s hne];simpa using h45),List.drop_zero]
   rw[e];exact l1Number_pos s hs hne h45 _ (by show _ = _;simp) (fun j h=>by rw[List.drop_zero];exact toL s j h) w
 ·have hz:s.size=0:=by omega
  have hl:s.data.toList=[]:=List.eq_nil_of_length_eq_zero (by simpa using hz)
  have hse:s=(⟨#[]⟩:ByteArray):=by
   apply ByteArray.ext;apply Array.ext';simpa using hl
  rw[hl,num1_nil];subst hse;go_enter Tryz.func116,Tryz.ntmps116;go_wp2
  go_ret2
  exact⟨rfl,rfl⟩
end
end Go.Proofs.YtbabakgjkloabaaGreatDoor
