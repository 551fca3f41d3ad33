/-
  Helpers: RdS, RdW, RdJ, ErrIs.
-/
import Derived.Test.YtbabakgjkloabaaGreatDoorPack5
import Derived.LaidEql
import Derived.Stop.Asserts
import Derived.RowKitTokens
set_option linter.unusedVariables false
set_option linter.unusedSimpArgs false
set_option maxRecDepth 100000
set_option maxHeartbeats 16000000
namespace Go.Proofs.YtbabakgjkloabaaGreatDoor
section
open Go.RowKit Go.Maps
attribute [local go_sem ↓] Go.wp_at_zero Go.wp_at_succ
def X4(T:Option (List Int)):Option (Int × List Int):=match T with|some ns=>if ns.length=2 then some (3,ns) else none|none=>none
def qB(T:Option (List Int)):Option (Int × List Int):=match T with|some ns=>if ns.length%3=0 then some (2,ns) else none|none=>none
theorem BP(F T G:Nat->Int):bL 0 0 F T G 0 0=false:=by simp[bL]
theorem DM(F T G:Nat->Int):bL 1 0 F T G 0 0=true:=by simp[bL]
theorem DN{l m:List UInt8}(h:l=m):(l==m)=true:=by simp[h]
theorem BQ{l m:List UInt8}(h:l≠m):(l==m)=false:=by simp[h]
theorem uC(s:ByteArray)(hs:s.size<=1048576)(hN:(s.toList==[110,111,110,101])=true)(w:World):
  Calls Tryz.prog 61 #[.string s] w fun e w'=>sO w w' e (some (1,[])):=by
 obtain⟨v1,v2,hB,hsz⟩:=xJ w (.int .i64 0) (.slice none 0 0) (.int .i64 0) (.int .i64 0) (.int .i64 1) (.slice none 0 0) (.int .i64 0) (.int .i64 0) 78;go_enter Tryz.func61,Tryz.ntmps61
 go_wp2_with fail
 generalize ((w.alloc (.cells #[.int .i64 0,.slice none 0 0,.int .i64 0,.int .i64 0] 78)).alloc (.cells #[.int .i64 1,.slice none 0 0,.int .i64 0,.int .i64 0] 78))=W at v1 v2 hB hsz ⊢;refine (eO 1 none 0 0 (fun _=>0) (fun _=>0) (fun _=>0) 0 0 (by omega) _ (fun k hk=>by omega)).mono ?_;rintro e w1 ⟨rfl,hb1⟩;rw[DM];replace v1:=v1.next hb1;replace v2:=v2.next hb1;replace hB:=aF hB nl hb1;obtain⟨r0,r1,r2,r3⟩:=v1.c4;have s0:w1.cell? ⟨w.heap.size+1,0,none⟩=some (.int .i64 1):=v2.cell (j:=0) (by omega);have s1:w1.cell? ⟨w.heap.size+1,1,none⟩=some (.slice none 0 0):=v2.cell (j:=1) (by omega);have s2:w1.cell? ⟨w.heap.size+1,2,none⟩=some (.int .i64 0):=v2.cell (j:=2) (by omega);have s3:w1.cell? ⟨w.heap.size+1,3,none⟩=some (.int .i64 0):=v2.cell (j:=3) (by omega);have fz:=fun j=>v1.frozen j
 clear hb1 v2;go_wp2;obtain⟨q0,q1,q2,q3⟩:=xK v1 (.int .i64 1) (.slice none 0 0) (.int .i64 0) (.int .i64 0);exact bodyPost_ret (v:=.tuple #[.agg #[.int .i64 1,.slice none 0 0,.int .i64 0,.int .i64 0],.bool true]) (by simp[results,Tryz.results61,go_sem,q0,q1,q2,q3]) rfl ⟨none,0,rfl,cQ _ _ _ _,bX hB nl _ _ _ _⟩
theorem uD(s:ByteArray)(hs:s.size<=1048576)(hN:(s.toList==[110,111,110,101])=false)(hA:4<s.size->((s.extract 0 4).toList==[97,115,107,32])=false)(hW:6<s.size->((s.extract 0 6).toList==[119,101,105,103,104,32])=false)(w:World):
  Calls Tryz.prog 61 #[.string s] w fun e w'=>sO w w' e none:=by
 obtain⟨v1,v2,hB,hsz⟩:=xJ w (.int .i64 0) (.slice none 0 0) (.int .i64 0) (.int .i64 0) (.int .i64 0) (.slice none 0 0) (.int .i64 0) (.int .i64 0) 78
 have HCO:Hid (∀ W,Calls Tryz.prog 95 #[.agg #[.int .i64 0,.slice none 0 0,.int .i64 0,.int .i64 0]] W fun e w'=>e=.returned (.bool false)/\Below W.heap.size W w'):=fun W=>by
  have:=eO 0 none 0 0 (fun _=>0) (fun _=>0) (fun _=>0) 0 0 (by omega) W (fun k hk=>by omega)
  rwa [BP]at this
 have hcase:(¬ 4<s.size)\/(4<s.size/\¬ 6<s.size/\((s.extract 0 4).toList==[97,115,107,32])=false)\/(6<s.size/\((s.extract 0 4).toList==[97,115,107,32])=false/\((s.extract 0 6).toList==[119,101,105,103,104,32])=false):=by
  by_cases h4:4<s.size
  ·by_cases h6:6<s.size
   ·exact .inr (.inr ⟨h6,hA h4,hW h6⟩)
   ·exact .inr (.inl ⟨h4,h6,hA h4⟩)
  ·exact .inl h4
 clear hA hW;rcases hcase with h4|⟨h4,h6,hA⟩|⟨h6,hA,hW⟩
 ·have h4':¬ (4:Int)<(s.size:Int):=by omega
  have h6':¬ (6:Int)<(s.size:Int):=by omega
  go_enter Tryz.func61,Tryz.ntmps61
  go_wp2_with fail
  generalize ((w.alloc (.cells #[.int .i64 0,.slice none 0 0,.int .i64 0,.int .i64 0] 78)).alloc (.cells #[.int .i64 0,.slice none 0 0,.int .i64 0,.int .i64 0] 78))=W at v1 v2 hB hsz ⊢;refine (HCO.out _).mono ?_;rintro e w1 ⟨rfl,hb1⟩;replace v1:=v1.next hb1;replace hB:=aF hB nl hb1;obtain⟨r0,r1,r2,r3⟩:=v1.c4;have fz:=fun j=>v1.frozen j
  clear hb1 v2;go_wp2;obtain⟨q0,q1,q2,q3⟩:=xK v1 (.int .i64 0) (.slice none 0 0) (.int .i64 0) (.int .i64 0);exact bodyPost_ret (v:=.tuple #[.agg #[.int .i64 0,.slice none 0 0,.int .i64 0,.int .i64 0],.bool false]) (by simp[results,Tryz.results61,go_sem,q0,q1,q2,q3]) rfl ⟨none,0,rfl,cQ _ _ _ _,bX hB nl _ _ _ _⟩
 ·have h4':(4:Int)<(s.size:Int):=by omega
  have h6':¬ (6:Int)<(s.size:Int):=by omega
  go_enter Tryz.func61,Tryz.ntmps61
  go_wp2_with fail
  generalize ((w.alloc (.cells #[.int .i64 0,.slice none 0 0,.int .i64 0,.int .i64 0] 78)).alloc (.cells #[.int .i64 0,.slice none 0 0,.int .i64 0,.int .i64 0] 78))=W at v1 v2 hB hsz ⊢;refine (HCO.out _).mono ?_;rintro e w1 ⟨rfl,hb1⟩;replace v1:=v1.next hb1;replace hB:=aF hB nl hb1;obtain⟨r0,r1,r2,r3⟩:=v1.c4;have fz:=fun j=>v1.frozen j
  clear hb1 v2;go_wp2;obtain⟨q0,q1,q2,q3⟩:=xK v1 (.int .i64 0) (.slice none 0 0) (.int .i64 0) (.int .i64 0);exact bodyPost_ret (v:=.tuple #[.agg #[.int .i64 0,.slice none 0 0,.int .i64 0,.int .i64 0],.bool false]) (by simp[results,Tryz.results61,go_sem,q0,q1,q2,q3]) rfl ⟨none,0,rfl,cQ _ _ _ _,bX hB nl _ _ _ _⟩
 ·have h4':(4:Int)<(s.size:Int):=by omega
  have h6':(6:Int)<(s.size:Int):=by omega
  go_enter Tryz.func61,Tryz.ntmps61
  go_wp2_with fail
  generalize ((w.alloc (.cells #[.int .i64 0,.slice none 0 0,.int .i64 0,.int .i64 0] 78)).alloc (.cells #[.int .i64 0,.slice none 0 0,.int .i64 0,.int .i64 0] 78))=W at v1 v2 hB hsz ⊢;refine (HCO.out _).mono ?_;rintro e w1 ⟨rfl,hb1⟩;replace v1:=v1.next hb1;replace hB:=aF hB nl hb1;obtain⟨r0,r1,r2,r3⟩:=v1.c4;have fz:=fun j=>v1.frozen j
  clear hb1 v2;go_wp2;obtain⟨q0,q1,q2,q3⟩:=xK v1 (.int .i64 0) (.slice none 0 0) (.int .i64 0) (.int .i64 0);exact bodyPost_ret (v:=.tuple #[.agg #[.int .i64 0,.slice none 0 0,.int .i64 0,.int .i64 0],.bool false]) (by simp[results,Tryz.results61,go_sem,q0,q1,q2,q3]) rfl ⟨none,0,rfl,cQ _ _ _ _,bX hB nl _ _ _ _⟩
theorem xS(s:ByteArray)(hs:s.size<=1048576)(hN:(s.toList==[110,111,110,101])=false)(h4:4<s.size)(hA:((s.extract 0 4).toList==[97,115,107,32])=true)(w:World):
  Calls Tryz.prog 61 #[.string s] w fun e w'=>sO w w' e (cW (X4 (bG (s.data.toList.drop 4) [] []))):=by
 obtain⟨v1,v2,hB,hsz⟩:=xJ w (.int .i64 0) (.slice none 0 0) (.int .i64 0) (.int .i64 0) (.int .i64 0) (.slice none 0 0) (.int .i64 0) (.int .i64 0) 78;have h4':(4:Int)<(s.size:Int):=by omega
 have HNU:Hid (∀ W,Calls Tryz.prog 94 #[.string (s.extract 4 s.size)] W fun e w'=>DW W w' e (bG (s.data.toList.drop 4) [] [])):=fun W=>by
  have:=nZ (s.extract 4 s.size) (by simp;omega) W
  rwa [gR,List.take_of_length_le (by simp)]at this
 generalize bG (s.data.toList.drop 4) [] []=T at HNU ⊢;obtain⟨R,hR⟩:∃ R,R=cW (X4 T):=⟨_,rfl⟩
 rw[<-hR];have HR:Hid (R=cW (X4 T)):=hR;clear hR;go_enter Tryz.func61,Tryz.ntmps61
 go_wp2_with fail
 generalize ((w.alloc (.cells #[.int .i64 0,.slice none 0 0,.int .i64 0,.int .i64 0] 78)).alloc (.cells #[.int .i64 0,.slice none 0 0,.int .i64 0,.int .i64 0] 78))=W at v1 v2 hB hsz ⊢;refine (HNU.out _).mono ?_;rintro e w1 ⟨ns,ok,g,cap,rfl,hT,hln,hown,hb1⟩;replace v1:=v1.next hb1;replace v2:=v2.next hb1;replace hB:=aF hB nl hb1;obtain⟨r0,r1,r2,r3⟩:=v1.c4;have fz:=fun j=>v1.frozen j
 clear hb1 HNU
 have hbad:(ok=false\/(ok=true/\ns.length≠2))\/(ok=true/\ns.length=2):=by
  cases ok
  ·exact .inl (.inl rfl)
  ·by_cases h:ns.length=2
   ·exact .inr ⟨rfl,h⟩
   ·exact .inl (.inr ⟨rfl,h⟩)
 rcases hbad with hbad|⟨rfl,hl2⟩
 ·have HE:Hid (R=none):=by
   show _ = _
   rw[HR.out];rcases hT with ⟨h1,h2⟩|⟨h1,h2⟩
   ·rcases hbad with h3|⟨_,h3⟩
    ·rw[h1]at h3;cases h3
    ·rw[h2];simp[h3,cW,X4]
   ·rw[h2];rfl
  clear v2 HR hT;rcases hbad with rfl|⟨rfl,hl2⟩
  ·go_wp2
   obtain⟨q0,q1,q2,q3⟩:=xK v1 (.int .i64 0) (.slice none 0 0) (.int .i64 0) (.int .i64 0);exact bodyPost_ret (v:=.tuple #[.agg #[.int .i64 0,.slice none 0 0,.int .i64 0,.int .i64 0],.bool false]) (by simp[results,Tryz.results61,go_sem,q0,q1,q2,q3]) rfl (by rw[HE.out];exact⟨none,0,rfl,cQ _ _ _ _,bX hB nl _ _ _ _⟩)
  ·have hl2':((ns.length:Int) != 2)=true:=by simp;omega
   have hl3:¬ (ns.length:Int)=2:=by omega
   clear hl2;go_wp2;obtain⟨q0,q1,q2,q3⟩:=xK v1 (.int .i64 0) (.slice none 0 0) (.int .i64 0) (.int .i64 0);exact bodyPost_ret (v:=.tuple #[.agg #[.int .i64 0,.slice none 0 0,.int .i64 0,.int .i64 0],.bool false]) (by simp[results,Tryz.results61,go_sem,q0,q1,q2,q3]) rfl (by rw[HE.out];exact⟨none,0,rfl,cQ _ _ _ _,bX hB nl _ _ _ _⟩)
 obtain⟨x,y,rfl⟩:∃ x y,ns=[x,y]:=by
  match ns,hl2 with
  | [x,y],_=>exact⟨x,y,rfl⟩
 have HR2:Hid (R=if rI 3 [x,y]=true then some (3,[x,y]) else none):=by
  show _ = _
  rw[HR.out];rcases hT with ⟨_,h2⟩|⟨h1,_⟩
  ·rw[h2];rfl
  ·cases h1
 clear HR hT;have c0:w1.cell? ⟨g,0,none⟩=some (.int .i64 x):=hown.has.cell (j:=0) (by simp);have c1:w1.cell? ⟨g,1,none⟩=some (.int .i64 y):=hown.has.cell (j:=1) (by simp);have gb:=hown.base;have s0:w1.cell? ⟨w.heap.size+1,0,none⟩=some (.int .i64 0):=v2.cell (j:=0) (by omega);have s1:w1.cell? ⟨w.heap.size+1,1,none⟩=some (.slice none 0 0):=v2.cell (j:=1) (by omega);have s2:w1.cell? ⟨w.heap.size+1,2,none⟩=some (.int .i64 0):=v2.cell (j:=2) (by omega);have s3:w1.cell? ⟨w.heap.size+1,3,none⟩=some (.int .i64 0):=v2.cell (j:=3) (by omega);have fz2:=fun j=>v2.frozen j
 clear hown hln hl2;have hl2:[x,y].length=2:=rfl;simp only[hl2];clear hl2
 go_wp2_with fail
 go_region_law (fail)
 all_goals
  have u2:=((((v2.set 0 (.int .i64 3)).set 1 (.slice none 0 0)).set 2 (.int .i64 x)).set 3 (.int .i64 y)).next ((Below.refl _ _).drew);have u1:=((((v1.other (c:=w.heap.size+1) (i:=0) (by omega) (.int .i64 3)).other (c:=w.heap.size+1) (i:=1) (by omega) (.slice none 0 0)).other (c:=w.heap.size+1) (i:=2) (by omega) (.int .i64 x)).other (c:=w.heap.size+1) (i:=3) (by omega) (.int .i64 y)).next ((Below.refl _ _).drew);have uB:=(bX hB (b:=w.heap.size+1) (by omega) (.int .i64 3) (.slice none 0 0) (.int .i64 x) (.int .i64 y)).drew;clear v1 v2 hB c0 c1 s0 s1 s2 s3 fz2 r0 r1 r2 r3 fz gb;obtain⟨s0,s1,s2,s3⟩:=u2.c4;simp only[reduceIte,reduceCtorEq,Nat.reduceEqDiff]at s0 s1 s2 s3;generalize (((((w1.setCell ⟨w.heap.size+1,0,none⟩ (.int .i64 3)).setCell ⟨w.heap.size+1,1,none⟩ (.slice none 0 0)).setCell ⟨w.heap.size+1,2,none⟩ (.int .i64 x)).setCell ⟨w.heap.size+1,3,none⟩ (.int .i64 y))).drew=X at u1 u2 uB s0 s1 s2 s3 ⊢
  go_wp2_with fail
  refine (eO 3 none 0 0 (nU [x,y] 0) (nU [x,y] 0) (nU [x,y] 0) x y (by omega) _ (fun k hk=>by omega)).mono ?_;rintro e w2 ⟨rfl,hb2⟩;have hk:bL 3 0 (nU [x,y] 0) (nU [x,y] 0) (nU [x,y] 0) x y=rI 3 [x,y]:=by simp[rI]
  rw[hk];clear hk s0 s1 s2 s3;replace u1:=u1.next hb2;replace u2:=u2.next hb2;replace uB:=aF uB nl hb2;obtain⟨s0,s1,s2,s3⟩:=u2.c4;simp only[reduceIte,reduceCtorEq,Nat.reduceEqDiff]at s0 s1 s2 s3;obtain⟨r0,r1,r2,r3⟩:=u1.c4;have fz:=fun j=>u1.frozen j
  clear hb2 u2;cases hok:rI 3 [x,y]
  ·have HE:Hid (R=none):=by
    show _ = _
    rw[HR2.out,hok];rfl
   clear HR2;go_wp2;obtain⟨q0,q1,q2,q3⟩:=xK u1 (.int .i64 0) (.slice none 0 0) (.int .i64 0) (.int .i64 0);exact bodyPost_ret (v:=.tuple #[.agg #[.int .i64 0,.slice none 0 0,.int .i64 0,.int .i64 0],.bool false]) (by simp[results,Tryz.results61,go_sem,q0,q1,q2,q3]) rfl (by rw[HE.out];exact⟨none,0,rfl,cQ _ _ _ _,bX uB nl _ _ _ _⟩)
  ·have HE:Hid (R=some (3,[x,y])):=by
    show _ = _
    rw[HR2.out,hok];rfl
   clear HR2;go_wp2;obtain⟨q0,q1,q2,q3⟩:=xK u1 (.int .i64 3) (.slice none 0 0) (.int .i64 x) (.int .i64 y);exact bodyPost_ret (v:=.tuple #[.agg #[.int .i64 3,.slice none 0 0,.int .i64 x,.int .i64 y],.bool true]) (by simp[results,Tryz.results61,go_sem,q0,q1,q2,q3]) rfl (by rw[HE.out];exact V2 (bX uB nl _ _ _ _))
theorem tB(s:ByteArray)(hs:s.size<=1048576)(hN:(s.toList==[110,111,110,101])=false)(h6:6<s.size)(hA:((s.extract 0 4).toList==[97,115,107,32])=false)(hW:((s.extract 0 6).toList==[119,101,105,103,104,32])=true)(w:World):
  Calls Tryz.prog 61 #[.string s] w fun e w'=>sO w w' e (cW (qB (bG (s.data.toList.drop 6) [] []))):=by
 obtain⟨v1,v2,hB,hsz⟩:=xJ w (.int .i64 0) (.slice none 0 0) (.int .i64 0) (.int .i64 0) (.int .i64 0) (.slice none 0 0) (.int .i64 0) (.int .i64 0) 78;have h4':(4:Int)<(s.size:Int):=by omega
 have h6':(6:Int)<(s.size:Int):=by omega
 have HNU:Hid (∀ W,Calls Tryz.prog 94 #[.string (s.extract 6 s.size)] W fun e w'=>DW W w' e (bG (s.data.toList.drop 6) [] [])):=fun W=>by
  have:=nZ (s.extract 6 s.size) (by simp;omega) W
  rwa [gR,List.take_of_length_le (by simp)]at this
 generalize bG (s.data.toList.drop 6) [] []=T at HNU ⊢;obtain⟨R,hR⟩:∃ R,R=cW (qB T):=⟨_,rfl⟩
 rw[<-hR];have HR:Hid (R=cW (qB T)):=hR;clear hR;go_enter Tryz.func61,Tryz.ntmps61
 go_wp2_with fail
 generalize ((w.alloc (.cells #[.int .i64 0,.slice none 0 0,.int .i64 0,.int .i64 0] 78)).alloc (.cells #[.int .i64 0,.slice none 0 0,.int .i64 0,.int .i64 0] 78))=W at v1 v2 hB hsz ⊢;refine (HNU.out _).mono ?_;rintro e w1 ⟨ns,ok,g,cap,rfl,hT,hln,hown,hb1⟩;replace v1:=v1.next hb1;replace v2:=v2.next hb1;replace hB:=aF hB nl hb1;obtain⟨r0,r1,r2,r3⟩:=v1.c4;have fz:=fun j=>v1.frozen j
 clear hb1 HNU
 have hbad:(ok=false\/(ok=true/\ns.length%3≠0))\/(ok=true/\ns.length%3=0):=by
  cases ok
  ·exact .inl (.inl rfl)
  ·by_cases h:ns.length%3=0
   ·exact .inr ⟨rfl,h⟩
   ·exact .inl (.inr ⟨rfl,h⟩)
 rcases hbad with hbad|⟨rfl,hl2⟩
 ·have HE:Hid (R=none):=by
   show _ = _
   rw[HR.out];rcases hT with ⟨h1,h2⟩|⟨h1,h2⟩
   ·rcases hbad with h3|⟨_,h3⟩
    ·rw[h1]at h3;cases h3
    ·rw[h2];simp[h3,cW,qB]
   ·rw[h2];rfl
  clear v2 HR hT;rcases hbad with rfl|⟨rfl,hl2⟩
  ·go_wp2
   obtain⟨q0,q1,q2,q3⟩:=xK v1 (.int .i64 0) (.slice none 0 0) (.int .i64 0) (.int .i64 0);exact bodyPost_ret (v:=.tuple #[.agg #[.int .i64 0,.slice none 0 0,.int .i64 0,.int .i64 0],.bool false]) (by simp[results,Tryz.results61,go_sem,q0,q1,q2,q3]) rfl (by rw[HE.out];exact⟨none,0,rfl,cQ _ _ _ _,bX hB nl _ _ _ _⟩)
  ·have hl2':((ns.length:Int)%3 != 0)=true:=by simp;omega
   have hl3:¬ (ns.length:Int)%3=0:=by omega
   clear hl2;go_wp2;obtain⟨q0,q1,q2,q3⟩:=xK v1 (.int .i64 0) (.slice none 0 0) (.int .i64 0) (.int .i64 0);exact bodyPost_ret (v:=.tuple #[.agg #[.int .i64 0,.slice none 0 0,.int .i64 0,.int .i64 0],.bool false]) (by simp[results,Tryz.results61,go_sem,q0,q1,q2,q3]) rfl (by rw[HE.out];exact⟨none,0,rfl,cQ _ _ _ _,bX hB nl _ _ _ _⟩)
 have HR2:Hid (R=if rI 2 ns=true then some (2,ns) else none):=by
  show _ = _
  rw[HR.out];rcases hT with ⟨_,h2⟩|⟨h1,_⟩
  ·rw[h2];simp[qB,hl2,cW]
  ·cases h1
 clear HR hT;have gb:=hown.base;have gl:=hown.lt;have hI:=hown.has;have HL:Hid (ns.length%3=0):=hl2;have hl3:(ns.length:Int)%3=0:=by omega
 clear hown hl2 r0 r1 r2 r3 fz;have hw1:=hB.size;have t0:w1.cell? ⟨w.heap.size+1,0,none⟩=some (.int .i64 0):=v2.cell (j:=0) (by omega);have fz2:=fun j=>v2.frozen j
 have v2':=(v2.set 0 (.int .i64 2)).congr (g:=c4 (.int .i64 2) (.slice none 0 0) (.int .i64 0) (.int .i64 0)) (fun j hj=>by
  have:j=0\/j=1\/j=2\/j=3:=by omega
  rcases this with rfl|rfl|rfl|rfl<;>rfl)
 have v1':=v1.other (c:=w.heap.size+1) (i:=0) (by omega) (.int .i64 2);have hB':=hB.setCell (p:=⟨w.heap.size+1,0,none⟩) (by simp) (.int .i64 2);have hI':=hI.of_block (w':=w1.setCell ⟨w.heap.size+1,0,none⟩ (.int .i64 2)) (Below.heap_setCell _ _ _ _ (by simp;omega));have hs':(w1.setCell ⟨w.heap.size+1,0,none⟩ (.int .i64 2)).heap.size=w1.heap.size:=by simp[World.setCell]
 clear v1 v2 hB hI;go_wp2;generalize w1.setCell ⟨w.heap.size+1,0,none⟩ (.int .i64 2)=X at v1' v2' hB' hI' hs' ⊢;clear t0 fz2 hl3
 go_loopw [9] (fun x wr=>∃ (m k gc:Nat) (go:Option Addr),Hid (m=3*k)/\m<=ns.length/\x=.int .i64 m/\VHas wr (w.heap.size+1) 78 4 (c4 (.int .i64 2) (.slice go k gc) (.int .i64 0) (.int .i64 0))/\VHas wr w.heap.size 78 4 (c4 (.int .i64 0) (.slice none 0 0) (.int .i64 0) (.int .i64 0))/\OwnA wr w1.heap.size go k gc (eH ns)/\IHas wr g ns.length (gd ns)/\w1.heap.size<=wr.heap.size/\g<w1.heap.size/\Below w.heap.size w wr) (fun x _=>ns.length-(intOf x).toNat)
 case atStart=>exact⟨0,0,0,none,rfl,Nat.zero_le _,rfl,v2',v1',OwnA.nil _ _ _,hI',Nat.le_of_eq hs'.symm,gl,hB'⟩
 case round=>
  clear v1' v2' hB' hI' hs';obtain⟨m,k,gc,go,HM,hm,rfl,v2,v1,hO,hI,hsz1,hgl,hB⟩:=hrel
  by_cases hlt:m<ns.length
  ·have hk:=HM.out
   have h3:=HL.out;have hlt0:(m:Int)<(ns.length:Int):=by omega
   have hlt1:(m:Int)+1<(ns.length:Int):=by omega
   have hlt2:(m:Int)+2<(ns.length:Int):=by omega
   have hm0:(0:Int)<=(m:Int):=by omega
   have c0:wr.cell? ⟨g,m,none⟩=some (.int .i64 (eH ns (k*3))):=by
    rw[EN,<-hk];exact hI.cell (j:=m) (by omega)
   have c1:wr.cell? ⟨g,m+1,none⟩=some (.int .i64 (eH ns (k*3+1))):=by
    rw[EP,<-hk];exact hI.cell (j:=m+1) (by omega)
   have c2:wr.cell? ⟨g,m+2,none⟩=some (.int .i64 (eH ns (k*3+2))):=by
    rw[EQ,<-hk];exact hI.cell (j:=m+2) (by omega)
   have b1:wr.cell? ⟨w.heap.size+1,1,none⟩=some (.slice go k gc):=v2.cell (j:=1) (by omega);have bz:=v2.frozen 1;have hOd:=hO.next (Below.refl _ wr).drew;have hkb:k<=10000000:=by omega
   have hq1:IntKind.i64.wrap ((m:Int)+1)=(m:Int)+1:=wi
   have hq2:IntKind.i64.wrap ((m:Int)+2)=(m:Int)+2:=wi
   have hp1:(0:Int)<=(m:Int)+1:=by omega
   have hp2:(0:Int)<=(m:Int)+2:=by omega
   have hn1:((m:Int)+1).toNat=m+1:=by omega
   have hn2:((m:Int)+2).toNat=m+2:=by omega
   clear hk h3
   go_wp2_with fail
   refine wp_region_held_drew (S:=(fun X:World=>X.cell? ⟨g,m,none⟩=some (.int .i64 (eH ns (k*3)))/\X.cell? ⟨g,m+1,none⟩=some (.int .i64 (eH ns (k*3+1)))/\X.cell? ⟨g,m+2,none⟩=some (.int .i64 (eH ns (k*3+2))))) (by kernel_rfl) ⟨c0,c1,c2⟩ (fun hS0=>?_);refine tK 0 (some 76) (.pointer (some ⟨w.heap.size+1,1,none⟩)) rfl rfl hS0 (fun V hV=>by obtain⟨v1,v2,v3⟩:=hV;go_simp) ?_;simp only[pS];refine tK 2 (some 78) (.slice (some ⟨g,0,none⟩) ns.length cap) rfl rfl hS0 (fun V hV=>by obtain⟨v1,v2,v3⟩:=hV;go_simp) ?_;simp only[pS];refine tK 3 (some 79) (.int .i64 (m:Int)) rfl rfl hS0 (fun V hV=>by obtain⟨v1,v2,v3⟩:=hV;go_simp) ?_;simp only[pS];refine tK 4 (some 80) (.pointer (some ⟨g,m,none⟩)) rfl rfl hS0 (fun V hV=>by obtain⟨v1,v2,v3⟩:=hV;go_simp) ?_;simp only[pS];refine tK 5 (some 81) (.int .i64 (eH ns (k*3))) rfl rfl hS0 (fun V hV=>by obtain⟨v1,v2,v3⟩:=hV;go_simp) ?_;simp only[pS];refine tK 6 (some 82) (.slice (some ⟨g,0,none⟩) ns.length cap) rfl rfl hS0 (fun V hV=>by obtain⟨v1,v2,v3⟩:=hV;go_simp) ?_;simp only[pS];refine tK 7 (some 83) (.int .i64 (m:Int)) rfl rfl hS0 (fun V hV=>by obtain⟨v1,v2,v3⟩:=hV;go_simp) ?_;simp only[pS];refine tK 8 (some 84) (.int .i64 ((m:Int)+1)) rfl rfl hS0 (fun V hV=>by obtain⟨v1,v2,v3⟩:=hV;go_simp) ?_;simp only[pS];refine tK 9 (some 85) (.pointer (some ⟨g,m+1,none⟩)) rfl rfl hS0 (fun V hV=>by obtain⟨v1,v2,v3⟩:=hV;go_simp) ?_;simp only[pS];refine tK 10 (some 86) (.int .i64 (eH ns (k*3+1))) rfl rfl hS0 (fun V hV=>by obtain⟨v1,v2,v3⟩:=hV;go_simp) ?_;simp only[pS];refine tK 11 (some 87) (.slice (some ⟨g,0,none⟩) ns.length cap) rfl rfl hS0 (fun V hV=>by obtain⟨v1,v2,v3⟩:=hV;go_simp) ?_;simp only[pS];refine tK 12 (some 88) (.int .i64 (m:Int)) rfl rfl hS0 (fun V hV=>by obtain⟨v1,v2,v3⟩:=hV;go_simp) ?_;simp only[pS];refine tK 13 (some 89) (.int .i64 ((m:Int)+2)) rfl rfl hS0 (fun V hV=>by obtain⟨v1,v2,v3⟩:=hV;go_simp) ?_;simp only[pS];refine tK 14 (some 90) (.pointer (some ⟨g,m+2,none⟩)) rfl rfl hS0 (fun V hV=>by obtain⟨v1,v2,v3⟩:=hV;go_simp) ?_;simp only[pS];refine tK 15 (some 91) (.int .i64 (eH ns (k*3+2))) rfl rfl hS0 (fun V hV=>by obtain⟨v1,v2,v3⟩:=hV;go_simp) ?_;simp only[pS];refine tK 16 (some 92) (.agg #[.int .i64 (eH ns (k*3)),.int .i64 (eH ns (k*3+1)),.int .i64 (eH ns (k*3+2))]) rfl rfl hS0 (fun V hV=>by obtain⟨v1,v2,v3⟩:=hV;go_simp) ?_;simp only[pS];have hba:=(Below.refl wr.drew.heap.size wr.drew).alloc nl (.cells #[.int .i64 (eH ns (k*3)),.int .i64 (eH ns (k*3+1)),.int .i64 (eH ns (k*3+2))] 115);have hS1:(fun X:World=>X.cell? ⟨g,m,none⟩=some (.int .i64 (eH ns (k*3)))/\X.cell? ⟨g,m+1,none⟩=some (.int .i64 (eH ns (k*3+1)))/\X.cell? ⟨g,m+2,none⟩=some (.int .i64 (eH ns (k*3+2)))) (wr.drew.alloc (.cells #[.int .i64 (eH ns (k*3)),.int .i64 (eH ns (k*3+1)),.int .i64 (eH ns (k*3+2))] 115)):=⟨aB hba nl c0,aB hba nl c1,aB hba nl c2⟩
   have hm1:wr.drew.heap.size=wr.heap.size:=rfl;refine DC 1 17 _ _ rfl rfl (by kernel_rfl) (by rfl) (by rfl) ?_ ?_
   ·skip
    refine vJ (v:=.slice go k gc) (by go_simp) ?_;refine⟨hS0,?_⟩;simp only[Act.put,sY,sZ,ss];refine cZ 17 _ rfl (by kernel_rfl) (by rfl) ?_;refine sS (v:=.slice (some ⟨wr.heap.size,0,none⟩) 1 1) (w':=wr.drew.alloc (.cells #[.int .i64 (eH ns (k*3)),.int .i64 (eH ns (k*3+1)),.int .i64 (eH ns (k*3+2))] 115)) (by go_simp) ?_;refine⟨hS1,?_⟩;simp only[Act.put,sY,sZ,ss];refine cZ 18 _ rfl (by kernel_rfl) (by rfl) ?_;refine lX (.tmp 77) (.tmp 93) rfl w1.heap.size k gc go (eH ns) rfl (hOd.next hba) wr.heap.size rfl (Go.Deep.blk_alloc_new _ _) hkb (by simp;omega) ?_;intro g' gc' w6 hown6 hgrow hr6;have hne:∀ x,(Value.slice go k gc).ownBlock=some x->w1.heap.size<=x:=fun x e=>(hO.at e).1
    have hS6:(fun X:World=>X.cell? ⟨g,m,none⟩=some (.int .i64 (eH ns (k*3)))/\X.cell? ⟨g,m+1,none⟩=some (.int .i64 (eH ns (k*3+1)))/\X.cell? ⟨g,m+2,none⟩=some (.int .i64 (eH ns (k*3+2)))) w6:=⟨hgrow.cell hS1.1 (fun e=>by have:=hne g e.symm;omega),hgrow.cell hS1.2.1 (fun e=>by have:=hne g e.symm;omega),hgrow.cell hS1.2.2 (fun e=>by have:=hne g e.symm;omega)⟩
    refine⟨hS6,?_⟩;simp only[Act.put,sY,sZ,ss];have x2:=((v2.next (Below.refl _ wr).drew).next hba).grown hgrow (fun e=>by have:=hne _ e.symm;omega);have x1:=((v1.next (Below.refl _ wr).drew).next hba).grown hgrow (fun e=>by have:=hne _ e.symm;omega);have xI:=((hI.below (Below.refl wr.heap.size wr).drew hI.lt).below hba hI.lt).grown hgrow (fun e=>by have:=hne _ e.symm;omega);have y1:w6.cell? ⟨w.heap.size+1,1,none⟩=some (.slice go k gc):=x2.cell (j:=1) (by omega);have z1:=x2.frozen 1;refine tK 19 (some 95) (.pointer (some ⟨w.heap.size+1,1,none⟩)) rfl rfl hS6 (fun V hV=>by obtain⟨v1,v2,v3⟩:=hV;go_simp) ?_;simp only[pS];refine cZ 20 _ rfl (by kernel_rfl) (by rfl) ?_;refine sR (w':=w6.setCell ⟨w.heap.size+1,1,none⟩ (.slice (some ⟨g',0,none⟩) (k+1) gc')) (by go_simp) ?_;have hs9:=aC w6 (w.heap.size+1) 1 (.slice (some ⟨g',0,none⟩) (k+1) gc');refine⟨⟨hs9.cell hS6.1 (by simp;omega),hs9.cell hS6.2.1 (by simp;omega),hs9.cell hS6.2.2 (by simp;omega)⟩,?_⟩;simp only[Act.put,sY,sZ,ss];refine wpAnyH_done (by kernel_rfl) ?_ _
    have n2:=(x2.set 1 (.slice (some ⟨g',0,none⟩) (k+1) gc')).congr (g:=c4 (.int .i64 2) (.slice (some ⟨g',0,none⟩) (k+1) gc') (.int .i64 0) (.int .i64 0)) (fun j hj=>by
     have:j=0\/j=1\/j=2\/j=3:=by omega
     rcases this with rfl|rfl|rfl|rfl<;>rfl)
    have n1:=x1.other (c:=w.heap.size+1) (i:=1) (by omega) (.slice (some ⟨g',0,none⟩) (k+1) gc');have nI:=xI.grown hs9 (by simp;omega);have nO:=hown6.grown hs9 (fun x e=>by have:=(hown6.at e).1;simp;omega);have hsz6:wr.heap.size<=w6.heap.size:=by have:=hgrow.size;simp at this;omega
    have hsz9:w1.heap.size<=(w6.setCell ⟨w.heap.size+1,1,none⟩ (.slice (some ⟨g',0,none⟩) (k+1) gc')).heap.size:=by have:=hs9.size;omega
    have nB0:=(hB.drew.alloc (o:=(.cells #[.int .i64 (eH ns (k*3)),.int .i64 (eH ns (k*3+1)),.int .i64 (eH ns (k*3+2))] 115)) (by have:=hB.size;simp;omega)).grown hgrow (by have:=hB.size;simp;omega) (fun x e=>by have:=hne x e;omega);have nB:=nB0.setCell (p:=⟨w.heap.size+1,1,none⟩) (by simp) (.slice (some ⟨g',0,none⟩) (k+1) gc');clear x1 x2 xI y1 z1 hS6 hS1 hS0 hba hs9 hgrow hown6 hr6 nB0 hOd v1 v2 hO hI c0 c1 c2 b1 bz hB;generalize w6.setCell ⟨w.heap.size+1,1,none⟩ (.slice (some ⟨g',0,none⟩) (k+1) gc')=X9 at n1 n2 nI nO nB hsz9 ⊢
    go_wp2_with fail
    go_roundw
    case rel=>exact⟨m+3,k+1,gc',some ⟨g',0,none⟩,by show _ = _;have:=HM.out;omega,by omega,by go_num,n2,n1,nO,nI,hsz9,hgl,nB⟩
    case measure=>simp[intOf];omega
   ·skip
    refine sS (v:=.slice (some ⟨wr.heap.size,0,none⟩) 1 1) (w':=wr.drew.alloc (.cells #[.int .i64 (eH ns (k*3)),.int .i64 (eH ns (k*3+1)),.int .i64 (eH ns (k*3+2))] 115)) (by go_simp) ?_;refine⟨hS1,?_⟩;simp only[Act.put,sY,sZ,ss];have b2:(wr.alloc (.cells #[.int .i64 (eH ns (k*3)),.int .i64 (eH ns (k*3+1)),.int .i64 (eH ns (k*3+2))] 115)).cell? ⟨w.heap.size+1,1,none⟩=some (.slice go k gc):=aB ((Below.refl wr.heap.size wr).alloc nl _) nl b1;refine cZ 1 _ rfl (by kernel_rfl) (by rfl) ?_;refine vJ (v:=.slice go k gc) (by go_simp) ?_;refine⟨hS1,?_⟩;simp only[Act.put,sY,sZ,ss];clear b2;refine cZ 18 _ rfl (by kernel_rfl) (by rfl) ?_;refine lX (.tmp 77) (.tmp 93) rfl w1.heap.size k gc go (eH ns) rfl (hOd.next hba) wr.heap.size rfl (Go.Deep.blk_alloc_new _ _) hkb (by simp;omega) ?_;intro g' gc' w6 hown6 hgrow hr6;have hne:∀ x,(Value.slice go k gc).ownBlock=some x->w1.heap.size<=x:=fun x e=>(hO.at e).1
    have hS6:(fun X:World=>X.cell? ⟨g,m,none⟩=some (.int .i64 (eH ns (k*3)))/\X.cell? ⟨g,m+1,none⟩=some (.int .i64 (eH ns (k*3+1)))/\X.cell? ⟨g,m+2,none⟩=some (.int .i64 (eH ns (k*3+2)))) w6:=⟨hgrow.cell hS1.1 (fun e=>by have:=hne g e.symm;omega),hgrow.cell hS1.2.1 (fun e=>by have:=hne g e.symm;omega),hgrow.cell hS1.2.2 (fun e=>by have:=hne g e.symm;omega)⟩
    refine⟨hS6,?_⟩;simp only[Act.put,sY,sZ,ss];have x2:=((v2.next (Below.refl _ wr).drew).next hba).grown hgrow (fun e=>by have:=hne _ e.symm;omega);have x1:=((v1.next (Below.refl _ wr).drew).next hba).grown hgrow (fun e=>by have:=hne _ e.symm;omega);have xI:=((hI.below (Below.refl wr.heap.size wr).drew hI.lt).below hba hI.lt).grown hgrow (fun e=>by have:=hne _ e.symm;omega);have y1:w6.cell? ⟨w.heap.size+1,1,none⟩=some (.slice go k gc):=x2.cell (j:=1) (by omega);have z1:=x2.frozen 1;refine tK 19 (some 95) (.pointer (some ⟨w.heap.size+1,1,none⟩)) rfl rfl hS6 (fun V hV=>by obtain⟨v1,v2,v3⟩:=hV;go_simp) ?_;simp only[pS];refine cZ 20 _ rfl (by kernel_rfl) (by rfl) ?_;refine sR (w':=w6.setCell ⟨w.heap.size+1,1,none⟩ (.slice (some ⟨g',0,none⟩) (k+1) gc')) (by go_simp) ?_;have hs9:=aC w6 (w.heap.size+1) 1 (.slice (some ⟨g',0,none⟩) (k+1) gc');refine⟨⟨hs9.cell hS6.1 (by simp;omega),hs9.cell hS6.2.1 (by simp;omega),hs9.cell hS6.2.2 (by simp;omega)⟩,?_⟩;simp only[Act.put,sY,sZ,ss];refine wpAnyH_done (by kernel_rfl) ?_ _
    have n2:=(x2.set 1 (.slice (some ⟨g',0,none⟩) (k+1) gc')).congr (g:=c4 (.int .i64 2) (.slice (some ⟨g',0,none⟩) (k+1) gc') (.int .i64 0) (.int .i64 0)) (fun j hj=>by
     have:j=0\/j=1\/j=2\/j=3:=by omega
     rcases this with rfl|rfl|rfl|rfl<;>rfl)
    have n1:=x1.other (c:=w.heap.size+1) (i:=1) (by omega) (.slice (some ⟨g',0,none⟩) (k+1) gc');have nI:=xI.grown hs9 (by simp;omega);have nO:=hown6.grown hs9 (fun x e=>by have:=(hown6.at e).1;simp;omega);have hsz6:wr.heap.size<=w6.heap.size:=by have:=hgrow.size;simp at this;omega
    have hsz9:w1.heap.size<=(w6.setCell ⟨w.heap.size+1,1,none⟩ (.slice (some ⟨g',0,none⟩) (k+1) gc')).heap.size:=by have:=hs9.size;omega
    have nB0:=(hB.drew.alloc (o:=(.cells #[.int .i64 (eH ns (k*3)),.int .i64 (eH ns (k*3+1)),.int .i64 (eH ns (k*3+2))] 115)) (by have:=hB.size;simp;omega)).grown hgrow (by have:=hB.size;simp;omega) (fun x e=>by have:=hne x e;omega);have nB:=nB0.setCell (p:=⟨w.heap.size+1,1,none⟩) (by simp) (.slice (some ⟨g',0,none⟩) (k+1) gc');clear x1 x2 xI y1 z1 hS6 hS1 hS0 hba hs9 hgrow hown6 hr6 nB0 hOd v1 v2 hO hI c0 c1 c2 b1 bz hB;generalize w6.setCell ⟨w.heap.size+1,1,none⟩ (.slice (some ⟨g',0,none⟩) (k+1) gc')=X9 at n1 n2 nI nO nB hsz9 ⊢
    go_wp2_with fail
    go_roundw
    case rel=>exact⟨m+3,k+1,gc',some ⟨g',0,none⟩,by show _ = _;have:=HM.out;omega,by omega,by go_num,n2,n1,nO,nI,hsz9,hgl,nB⟩
    case measure=>simp[intOf];omega
  ·have hk:=HM.out
   have h3:=HL.out;have hmn:m=ns.length:=by omega
   have hk3:ns.length / 3=k:=by omega
   have hlt0:¬ (m:Int)<(ns.length:Int):=by omega
   have HK:Hid (ns.length / 3=k):=hk3;clear hk h3 hk3;have s0:wr.cell? ⟨w.heap.size+1,0,none⟩=some (.int .i64 2):=v2.cell (j:=0) (by omega);have s1:wr.cell? ⟨w.heap.size+1,1,none⟩=some (.slice go k gc):=v2.cell (j:=1) (by omega);have s2:wr.cell? ⟨w.heap.size+1,2,none⟩=some (.int .i64 0):=v2.cell (j:=2) (by omega);have s3:wr.cell? ⟨w.heap.size+1,3,none⟩=some (.int .i64 0):=v2.cell (j:=3) (by omega)
   go_wp2_with fail
   refine (eO 2 go k gc (nU ns 0) (nU ns 1) (nU ns 2) 0 0 (by have:=HK.out;omega) _ (hO.owns.row)).mono ?_;rintro e w2 ⟨rfl,hb2⟩;have hkk:bL 2 k (nU ns 0) (nU ns 1) (nU ns 2) 0 0=rI 2 ns:=by simp[rI,HK.out]
   rw[hkk];clear hkk s0 s1 s2 s3;replace v1:=v1.next hb2;replace v2:=v2.next hb2;replace hB:=aF hB nl hb2;have hOS:=(hO.next hb2).owns;have s0:w2.cell? ⟨w.heap.size+1,0,none⟩=some (.int .i64 2):=v2.cell (j:=0) (by omega);have s1:w2.cell? ⟨w.heap.size+1,1,none⟩=some (.slice go k gc):=v2.cell (j:=1) (by omega);have s2:w2.cell? ⟨w.heap.size+1,2,none⟩=some (.int .i64 0):=v2.cell (j:=2) (by omega);have s3:w2.cell? ⟨w.heap.size+1,3,none⟩=some (.int .i64 0):=v2.cell (j:=3) (by omega);obtain⟨r0,r1,r2,r3⟩:=v1.c4;have fz:=fun j=>v1.frozen j
   clear hb2 v2 hO hI;cases hok:rI 2 ns
   ·have HE:Hid (R=none):=by
     show _ = _
     rw[HR2.out,hok];rfl
    clear HR2;go_wp2;obtain⟨q0,q1,q2,q3⟩:=xK v1 (.int .i64 0) (.slice none 0 0) (.int .i64 0) (.int .i64 0);exact bodyPost_ret (v:=.tuple #[.agg #[.int .i64 0,.slice none 0 0,.int .i64 0,.int .i64 0],.bool false]) (by simp[results,Tryz.results61,go_sem,q0,q1,q2,q3]) rfl (by rw[HE.out];exact⟨none,0,rfl,cQ _ _ _ _,bX hB nl _ _ _ _⟩)
   ·have HE:Hid (R=some (2,ns)):=by
     show _ = _
     rw[HR2.out,hok];rfl
    clear HR2;go_wp2;obtain⟨q0,q1,q2,q3⟩:=xK v1 (.int .i64 2) (.slice go k gc) (.int .i64 0) (.int .i64 0);exact bodyPost_ret (v:=.tuple #[.agg #[.int .i64 2,.slice go k gc,.int .i64 0,.int .i64 0],.bool true]) (by simp[results,Tryz.results61,go_sem,q0,q1,q2,q3]) rfl (by rw[HE.out];exact F2 HK.out ((hOS.from (by omega)).of_st4 (fun h0 a e=>by obtain⟨b,e2,hb,_⟩:=hOS 0 h0;rw[e]at e2;cases e2;simp;omega) _ _ _ _) (bX hB nl _ _ _ _))
theorem CA{nm:List UInt8}{ns ns':List Int}{K:Int}(h:kZ nm ns=some (K,ns')):
  bL (P5 (some (K,ns'))) ((oD (some (K,ns'))).length / 3) (nU (oD (some (K,ns'))) 0) (nU (oD (some (K,ns'))) 1) (nU (oD (some (K,ns'))) 2) (qA (some (K,ns')) 0) (qA (some (K,ns')) 1)=rI K ns':=by
 unfold kZ at h
 split at h
 ·split at h
  ·simp at h
   obtain⟨rfl,rfl⟩:=h;simp[P5,oD,qA,rI,bL]
  ·cases h
 split at h
 ·split at h
  ·simp at h
   obtain⟨rfl,rfl⟩:=h;simp[P5,oD,qA,rI]
  ·cases h
 split at h
 ·split at h
  ·simp at h
   obtain⟨rfl,rfl⟩:=h;simp[P5,oD,qA,rI,bL]
  ·cases h
 ·cases h
theorem yC(s:ByteArray)(hs:s.size<=1048576)(w:World):
  Calls Tryz.prog 58 #[.string s] w fun e w'=>sO w w' e (cW (S6 s.data.toList)):=by
 obtain⟨R,hR⟩:∃ R,R=cW (S6 s.data.toList):=⟨_,rfl⟩
 rw[<-hR];have HR:Hid (R=cW (S6 s.data.toList)):=hR;clear hR;have v1:=sP w (.int .i64 0) (.slice none 0 0) (.int .i64 0) (.int .i64 0) 78;have hB:=(Below.refl w.heap.size w).alloc nl (.cells #[.int .i64 0,.slice none 0 0,.int .i64 0,.int .i64 0] 78);go_enter Tryz.func58,Tryz.ntmps58
 go_wp2_with fail
 generalize (w.alloc (.cells #[.int .i64 0,.slice none 0 0,.int .i64 0,.int .i64 0] 78))=W at v1 hB ⊢;refine (uN s hs _).mono ?_;rintro e w1 ⟨nm,ns,ok,go,gc,rfl,hT,h30,hO,hb1⟩;replace v1:=v1.next hb1;replace hB:=aF hB nl hb1;have hl1:=v1.lt;clear hb1;rcases hT with ⟨rfl,hT⟩|⟨rfl,hT⟩
 rotate_left
 ·have HE:Hid (R=none):=by
   show _ = _
   rw[HR.out];unfold S6;rw[hT];rfl
  obtain⟨r0,r1,r2,r3⟩:=v1.c4;have fz:=fun j=>v1.frozen j
  clear HR hT;go_wp2;obtain⟨q0,q1,q2,q3⟩:=xK v1 (.int .i64 0) (.slice none 0 0) (.int .i64 0) (.int .i64 0);exact bodyPost_ret (v:=.tuple #[.agg #[.int .i64 0,.slice none 0 0,.int .i64 0,.int .i64 0],.bool false]) (by simp[results,Tryz.results58,go_sem,q0,q1,q2,q3]) rfl (by rw[HE.out];exact⟨none,0,rfl,cQ _ _ _ _,bX hB nl _ _ _ _⟩)
 have HR2:Hid (R=cW (kZ nm.data.toList ns)):=by
  show _ = _
  rw[HR.out];unfold S6;rw[hT]
 clear HR hT
 go_wp2_with fail
 refine (uL nm go gc _ ns h30 _ hO).mono ?_;rintro e w2 ⟨K,ao,n,cap,a,b,rfl,hn,hd,hb2⟩;replace v1:=v1.next hb2;have hsz1:=hB.size;replace hB:=aF hB nl hb2;clear hb2 hO;have hal:=(Below.refl w2.heap.size w2).alloc nl (.cells #[.int .i64 K,.slice ao n cap,.int .i64 a,.int .i64 b] 78);replace v1:=v1.next hal;have v2:=sP w2 (.int .i64 K) (.slice ao n cap) (.int .i64 a) (.int .i64 b) 78;replace hB:=aF hB nl hal;cases hr:kZ nm.data.toList ns with
 | none=>
  have HE:Hid (R=none):=by
   show _ = _
   rw[HR2.out,hr];rfl
  obtain⟨r0,r1,r2,r3⟩:=v1.c4;have fz:=fun j=>v1.frozen j
  clear HR2 hr hd hal v2;simp only[Option.isSome_none];go_wp2;obtain⟨q0,q1,q2,q3⟩:=xK v1 (.int .i64 0) (.slice none 0 0) (.int .i64 0) (.int .i64 0);exact bodyPost_ret (v:=.tuple #[.agg #[.int .i64 0,.slice none 0 0,.int .i64 0,.int .i64 0],.bool false]) (by simp[results,Tryz.results58,go_sem,q0,q1,q2,q3]) rfl (by rw[HE.out];exact⟨none,0,rfl,cQ _ _ _ _,bX hB nl _ _ _ _⟩)
 | some r=>
  obtain⟨K',ns'⟩:=r;rw[hr]at hd;obtain⟨e1,e2,e3,e4,hOS⟩:=hd rfl;have hOS1:=hOS.nxt hal
  have HCO:Hid (∀ W,Row W ao n (nU (oD (some (K',ns'))) 0) (nU (oD (some (K',ns'))) 1) (nU (oD (some (K',ns'))) 2)->Calls Tryz.prog 93 #[.agg #[.int .i64 K,.slice ao n cap,.int .i64 a,.int .i64 b]] W fun e w'=>e=.returned (.bool (rI K' ns'))/\Below W.heap.size W w'):=fun W h=>by
   have:=pP K ao n cap _ _ _ a b (by omega) W h;rw[e1,e2,e3,e4,CA hr]at this;rw[e1,e2,e3,e4];exact this
  have HR3:Hid (R=if rI K' ns'=true then some (K',ns') else none):=by
   show _ = _
   rw[HR2.out,hr];rfl
  have HF:Hid (K=P5 (some (K',ns'))/\n=(oD (some (K',ns'))).length / 3/\a=qA (some (K',ns')) 0/\b=qA (some (K',ns')) 1):=⟨e1,e2,e3,e4⟩
  simp only[Option.isSome_some];clear HR2 hr hd e1 e2 e3 e4 hOS hal;have hrow:Row (w2.alloc (.cells #[.int .i64 K,.slice ao n cap,.int .i64 a,.int .i64 b] 78)) ao n (nU (oD (some (K',ns'))) 0) (nU (oD (some (K',ns'))) 1) (nU (oD (some (K',ns'))) 2):=OwnS.row hOS1
  go_wp2_with fail
  generalize (w2.alloc (.cells #[.int .i64 K,.slice ao n cap,.int .i64 a,.int .i64 b] 78))=X at v1 v2 hB hOS1 hrow ⊢;refine (HCO.out _ hrow).mono ?_;rintro e w3 ⟨rfl,hb3⟩;replace v1:=v1.next hb3;replace v2:=v2.next hb3;replace hB:=aF hB nl hb3;replace hOS1:=hOS1.nxt hb3;have s0:w3.cell? ⟨w2.heap.size,0,none⟩=some (.int .i64 K):=v2.cell (j:=0) (by omega);have s1:w3.cell? ⟨w2.heap.size,1,none⟩=some (.slice ao n cap):=v2.cell (j:=1) (by omega);have s2:w3.cell? ⟨w2.heap.size,2,none⟩=some (.int .i64 a):=v2.cell (j:=2) (by omega);have s3:w3.cell? ⟨w2.heap.size,3,none⟩=some (.int .i64 b):=v2.cell (j:=3) (by omega);obtain⟨r0,r1,r2,r3⟩:=v1.c4;have fz:=fun j=>v1.frozen j
  clear hb3 v2 HCO hrow;cases hok:rI K' ns'
  ·have HE:Hid (R=none):=by
    show _ = _
    rw[HR3.out,hok];rfl
   clear HR3 HF;go_wp2;obtain⟨q0,q1,q2,q3⟩:=xK v1 (.int .i64 0) (.slice none 0 0) (.int .i64 0) (.int .i64 0);exact bodyPost_ret (v:=.tuple #[.agg #[.int .i64 0,.slice none 0 0,.int .i64 0,.int .i64 0],.bool false]) (by simp[results,Tryz.results58,go_sem,q0,q1,q2,q3]) rfl (by rw[HE.out];exact⟨none,0,rfl,cQ _ _ _ _,bX hB nl _ _ _ _⟩)
  ·have HE:Hid (R=some (K',ns')):=by
    show _ = _
    rw[HR3.out,hok];rfl
   clear HR3;go_wp2;obtain⟨q0,q1,q2,q3⟩:=xK v1 (.int .i64 K) (.slice ao n cap) (.int .i64 a) (.int .i64 b);refine bodyPost_ret (v:=.tuple #[.agg #[.int .i64 K,.slice ao n cap,.int .i64 a,.int .i64 b],.bool true]) (by simp[results,Tryz.results58,go_sem,q0,q1,q2,q3]) rfl ?_;rw[HE.out];obtain⟨e1,e2,e3,e4⟩:=HF.out;refine⟨ao,cap,by rw[<-e1,<-e2,<-e3,<-e4];rfl,?_,bX hB nl _ _ _ _⟩;rw[<-e2];exact (hOS1.from (by omega)).of_st4 (fun h0 p e=>by obtain⟨x,e5,hb,_⟩:=hOS1 0 h0;rw[e]at e5;cases e5;simp;omega) _ _ _ _
theorem pE(s:ByteArray)(hs:s.size<=1048576)(w:World):
  Calls Tryz.prog 61 #[.string s] w fun e w'=>sO w w' e (cW (rJ s.data.toList)):=by
 have hl:s.toList=s.data.toList:=ByteArray.toList_eq s;have he:∀ k,(s.extract 0 k).toList=s.data.toList.take k:=fun k=>by rw[ByteArray.toList_eq,gR];simp
 have hsz:s.data.toList.length=s.size:=by simp
 by_cases hN:s.data.toList=kN
 ·have e:rJ s.data.toList=some (1,[]):=by unfold rJ;rw[if_pos hN]
  rw[e];exact uC s hs (by rw[hl];exact DN hN) w
 have hNb:(s.toList==[110,111,110,101])=false:=by rw[hl];exact BQ hN
 by_cases hA:4<s.size/\s.data.toList.take 4=iH++[32]
 ·have e:rJ s.data.toList=X4 (bG (s.data.toList.drop 4) [] []):=by
   unfold rJ;rw[if_neg hN,if_pos (by rw[hsz];exact hA)];rfl
  rw[e];exact xS s hs hNb hA.1 (by rw[he];exact DN hA.2) w
 by_cases hW:6<s.size/\s.data.toList.take 6=dF++[32]
 ·have e:rJ s.data.toList=qB (bG (s.data.toList.drop 6) [] []):=by
   unfold rJ;rw[if_neg hN,if_neg (by rw[hsz];exact hA),if_pos (by rw[hsz];exact hW)];rfl
  rw[e];exact tB s hs hNb hW.1 (by rw[he];exact BQ (fun h=>hA ⟨by omega,h⟩)) (by rw[he];exact DN hW.2) w
 ·have e:rJ s.data.toList=none:=by
   unfold rJ;rw[if_neg hN,if_neg (by rw[hsz];exact hA),if_neg (by rw[hsz];exact hW)]
  rw[e];exact uD s hs hNb (fun h4=>by rw[he];exact BQ (fun h=>hA ⟨h4,h⟩)) (fun h6=>by rw[he];exact BQ (fun h=>hW ⟨h6,h⟩)) w
theorem uK(s:ByteArray)(hs:s.size<=1048576)(w:World):
  Calls Tryz.prog 58 #[.string s] w fun e w'=>sO w w' e (cW (rJ s.data.toList)):=by
 rw[<-P7];exact yC s hs w
end
section
open Go.RowKit Go.Extern.Stop Go.Stop Go.Extern
def qK:Array Value->Sem Value:=Extern.ReflectliteType.method fun t=>do Go.Extern.Rtype.noPackHeld "Comparable" t;pure (.bool (← typeInfo t).comparable)
theorem Tryz.isTypeOf(v:Value)(w:World):(Extern.ReflectliteType.typeOf #[.iface 199 v]).run Tryz.prog w=.ok (.iface 172 (.agg #[.pointer (some ⟨4,199,none⟩)])) w:=by kernel_rfl
theorem Tryz.isComparable(w:World):(qK #[.agg #[.pointer (some ⟨4,199,none⟩)]]).run Tryz.prog w=.ok (.bool true) w:=by kernel_rfl
theorem Tryz.isMethodComparable(v:Value)(w:World):(Go.method 342 172 v "Comparable").run Tryz.prog w=.ok (166,v) w:=by kernel_rfl
theorem Tryz.isComp:(Tryz.prog.info? 199).map (·.comparable)=some true:=by kernel_rfl
theorem Tryz.isSize:(Tryz.prog.info? 221).map (·.size)=some 1:=by kernel_rfl
theorem Tryz.noIsE(v:Value)(xT:TypeId)(w:World):(Instr.typeAssert (.iface 199 v) xT 174 true).run Tryz.prog w=.ok (.tuple #[.nilIface,.bool false]) w:=run_typeAssert_lacksB Tryz.underlying174 (by kernel_rfl) (by kernel_rfl) v xT w
theorem Tryz.noUnwrapE(v:Value)(xT:TypeId)(w:World):(Instr.typeAssert (.iface 199 v) xT 177 true).run Tryz.prog w=.ok (.tuple #[.nilIface,.bool false]) w:=run_typeAssert_lacksB Tryz.underlying177 (by kernel_rfl) (by kernel_rfl) v xT w
theorem Tryz.noUnwrapsE(v:Value)(xT:TypeId)(w:World):(Instr.typeAssert (.iface 199 v) xT 179 true).run Tryz.prog w=.ok (.tuple #[.nilIface,.bool false]) w:=run_typeAssert_lacksB Tryz.underlying179 (by kernel_rfl) (by kernel_rfl) v xT w
theorem Tryz.noIsM(v:Value)(xT:TypeId)(w:World):(Instr.typeAssert (.iface 152 v) xT 174 true).run Tryz.prog w=.ok (.tuple #[.nilIface,.bool false]) w:=run_typeAssert_lacksB Tryz.underlying174 (by kernel_rfl) (by kernel_rfl) v xT w
theorem Tryz.hasUnwrapM(v:Value)(xT:TypeId)(w:World):(Instr.typeAssert (.iface 152 v) xT 177 true).run Tryz.prog w=.ok (.tuple #[.iface 152 v,.bool true]) w:=run_typeAssert_hasB Tryz.underlying177 (by kernel_rfl) v xT w
theorem Tryz.methodUnwrapM(v:Value)(w:World):(Go.method 342 152 v "Unwrap").run Tryz.prog w=.ok (160,v) w:=by kernel_rfl
abbrev BF(k:Int)(a:Addr):Value:=.iface 152 (.agg #[.int .i64 k,.iface 199 (.pointer (some a))])
theorem zQ(k:Int)(a:Addr)(w:World):
  Calls Tryz.prog 160 #[.agg #[.int .i64 k,.iface 199 (.pointer (some a))]] w fun e w'=>e=.returned (.iface 199 (.pointer (some a)))/\Below w.heap.size w w':=by
 go_enter Tryz.func160,Tryz.ntmps160;go_wp2;go_ret;exact⟨rfl,by first|exact Below.refl _ _|exact (Below.refl _ _).alloc nl _⟩
theorem U9(b:Addr)(w:World):
  Calls Tryz.prog 109 #[.nilIface,.iface 199 (.pointer (some b))] w fun e w'=>e=.returned (.bool false)/\w'=w:=by
 have hn:=run_eql_iface_nil_left (P:=Tryz.prog) w 199 (.pointer (some b)) Tryz.underlying127;go_enter Tryz.func109,Tryz.ntmps109;go_wp2;go_ret;exact⟨rfl,rfl⟩
theorem V0(k:Int)(b:Addr)(w:World):
  Calls Tryz.prog 109 #[BF k b,.iface 199 (.pointer (some b))] w fun e w'=>e=.returned (.bool true)/\Below w.heap.size w w':=by
 obtain⟨i,hi,hcmp⟩:=Option.map_eq_some_iff.1 Tryz.isComp;obtain⟨j,hj,hjs⟩:=Option.map_eq_some_iff.1 Tryz.isSize;have h8:=@run_callFunc_extern Tryz.prog 123 _ Extern.ReflectliteType.typeOf Tryz.func123 (by kernel_rfl) (by kernel_rfl) (by kernel_rfl) (by kernel_rfl);have h32:=@run_callFunc_extern Tryz.prog 166 _ qK Tryz.func166 (by kernel_rfl) (by kernel_rfl) (by kernel_rfl) (by kernel_rfl);have tT:=Tryz.isTypeOf;have cT:=Tryz.isComparable;have mR:=Tryz.isMethodComparable;have nE:=Tryz.noIsE;have uE:=Tryz.noUnwrapE;have vE:=Tryz.noUnwrapsE;have nW:=Tryz.noIsM;have uW:=Tryz.hasUnwrapM;have mU:=Tryz.methodUnwrapM;have heq:=fun w=>run_eql_iface_ptr_same (P:=Tryz.prog) w b Tryz.underlying127 Tryz.underlying199 hi hcmp hj
 have hty:=run_eql_iface_types (P:=Tryz.prog) 152 199 (.agg #[.int .i64 k,.iface 199 (.pointer (some b))]) (.pointer (some b)) Tryz.underlying127 (by decide) w;go_enter Tryz.func109,Tryz.ntmps109;go_wp2;refine wp_loop_rounds 2 ?_;rw[rounds_succ]
 go_wp2_with (go_at_call 160;refine (zQ k b _).mono ?_;rintro e w1 ⟨rfl,hb1⟩)
 rw[rounds_succ];go_wp2;go_ret;exact⟨rfl,hb1⟩
end
end Go.Proofs.YtbabakgjkloabaaGreatDoor
