/-
  Helpers: Dnp, LikL, Ans, FnBig, FnBase, LikN.
-/
import Derived.Test.YtbabakgjkloabaaGreatDoorPack2
import Derived.Test.YtbabakgjkloabaaGreatDoorPack8
import Derived.Test.YtbabakgjkloabaaGreatDoorPack1
import Derived.Test.YtbabakgjkloabaaGreatDoorPack26
import Derived.Test.YtbabakgjkloabaaGreatDoorPack5
import Derived.Test.YtbabakgjkloabaaGreatDoorPack3
import Derived.Test.YtbabakgjkloabaaGreatDoorPack17
import Derived.Deep.QuietTactic
import Derived.Test.YtbabakgjkloabaaGreatDoorPack18
import Derived.Test.YtbabakgjkloabaaGreatDoorPack9
import Derived.Test.YtbabakgjkloabaaGreatDoorPack21
set_option linter.unusedVariables false
set_option linter.unusedSimpArgs false
namespace Go.Proofs.YtbabakgjkloabaaGreatDoor
section
open Go Go.RowKit
attribute [local go_sem ↓] Go.wp_at_zero Go.wp_at_succ
def TurnR (x:Nat) (u v:World):Prop:=u.grownBy v (some x)
def DrN (w:World) (e:Ending) (w':World):Prop:=∃ n s,e=.returned (ndV n s)/\NdO w' w.heap.size n s/\NdZ n s/\GdW n/\RB w w'
theorem CurAt.g2 {w w':World} {base c b:Nat} {ao:Option Addr} {n cap:Nat} {r:Option Nat} (h:CurAt w base c ao n cap) (g:G2 b r w w') (h1:base<=b) (h2:c≠b) (h3:∀ z,r=some z->base<=z/\c≠z):CurAt w' base c ao n cap:=by
 obtain⟨i,x,hi0,hi1,hv⟩:=h.cur;have hcl:=h.lt;have hge:=h.ge;refine⟨h.ge,h.len,fun k hk=>?_,i,x,hi0,hi1,VHas.g2 hv g h2 (fun q=>(h3 c q).2 rfl)⟩;obtain⟨b',o,v,e,hb,hc,hv'⟩:=h.by_ k hk;exact⟨b',o,v,e,hb,by rw[World.cell?_of_block (g.block b' (by omega) (by omega) (fun q=>by have:=(h3 b' q).1;omega))];exact hc,hv'⟩
def TvT (v:Value) (w:World):Prop:=∃ t:ByteArray,v=.string t/\t.size<=1048576
theorem TvT.rb (v:Value) (w w':World) (h:TvT v w) (hb:RB w w'):TvT v w':=h
def S4x (H:Nat) (v:Value) (w:World):Prop:=∃ (B:Nat) (a b c d:ByteArray),v=.slice (some ⟨B,0,none⟩) 4 4/\H<=B/\(a.size<=100/\b.size<=100/\c.size<=100/\d.size<=100)/\VHas w B 9 4 (lf [.string a,.string b,.string c,.string d])
theorem S4x.rb {H:Nat} (v:Value) (w w':World) (h:S4x H v w) (hb:RB w w'):S4x H v w':=by
 obtain⟨B,a,b,c,d,e,h1,h2,h⟩:=h;exact⟨B,a,b,c,d,e,h1,h2,VHas.next h hb⟩
theorem S4x.gr {H x:Nat} {v:Value} {w w':World} (h:S4x H v w) (hg:w.grownBy w' (some x)) (hx:x<H):S4x H v w':=by
 obtain⟨B,a,b,c,d,e,h1,h2,h⟩:=h;exact⟨B,a,b,c,d,e,h1,h2,VHas.grown h hg (fun q=>by have:=Option.some.inj q;omega)⟩
def P4x (H:Nat) (v:Value) (w:World):Prop:=∃ (B k:Nat) (t:ByteArray),v=.pointer (some ⟨B,k,none⟩)/\H<=B/\t.size<=100/\∃ n f,k<n/\f k=.string t/\VHas w B 9 n f
theorem P4x.rb {H:Nat} (v:Value) (w w':World) (h:P4x H v w) (hb:RB w w'):P4x H v w':=by
 obtain⟨B,k,t,e,h1,h2,n,f,h3,h4,h⟩:=h;exact⟨B,k,t,e,h1,h2,n,f,h3,h4,VHas.next h hb⟩
theorem P4x.gr {H x:Nat} {v:Value} {w w':World} (h:P4x H v w) (hg:w.grownBy w' (some x)) (hx:x<H):P4x H v w':=by
 obtain⟨B,k,t,e,h1,h2,n,f,h3,h4,h⟩:=h;exact⟨B,k,t,e,h1,h2,n,f,h3,h4,VHas.grown h hg (fun q=>by have:=Option.some.inj q;omega)⟩
structure DPr (w:World) (c:Nat) (ao:Option Addr) (k cap:Nat) (b5:Nat) (n:Nd) (s:NdS) (W:World):Prop where
 cur:CurAt W w.heap.size c ao k cap
 nb:NdB W b5 n s
 m:NdM W n s
 res:∃ f,VHas W w.heap.size 27 10 f
 rb:RB w W
 lt:w.heap.size<c/\w.heap.size<b5
section
variable {w:World} {c:Nat} {ao:Option Addr} {k cap:Nat} {b5:Nat} {n:Nd} {s:NdS} {W W':World}
theorem DPr.next (h:DPr w c ao k cap b5 n s W) (hb:RB W W'):DPr w c ao k cap b5 n s W':=⟨h.cur.next hb,VHas.next h.nb hb,h.m.next hb,h.res.elim fun f hf=>⟨f,VHas.next hf hb⟩,RB.trans _ _ _ h.rb hb,h.lt⟩
theorem DPr.rd (h:DPr w c ao k cap b5 n s W) (hC:CurAt W' w.heap.size c ao k cap) (hg:W.grownBy W' (some c)):DPr w c ao k cap b5 n s W':=
 have hT:∀ x,some c=some x->Typed W x 83:=fun x e=>by cases e;exact h.cur.typed
 have hl:=h.lt
 ⟨hC,VHas.gr h.nb hg hT (by decide),h.m.gr hg hT (by decide) (by decide),h.res.elim fun f hf=>⟨f,VHas.gr hf hg hT (by decide)⟩,rb_row h.rb hg (fun x e=>by cases e;omega),h.lt⟩
theorem DPr.put (h:DPr w c ao k cap b5 n s W) {f:Nat->Value} (hg:W.grownBy W' (some w.heap.size)) (hv:VHas W' w.heap.size 27 10 f):DPr w c ao k cap b5 n s W':=
 have hl:=h.lt;have hT:∀ x,some w.heap.size=some x->Typed W x 27:=fun x e=>by cases e;exact h.res.elim fun f hf=>hf.typed
 ⟨h.cur.grown hg nl (by omega),VHas.grown h.nb hg (fun e=>by have:=Option.some.inj e;omega),h.m.gr hg hT (by decide) (by decide),⟨f,hv⟩,rb_row h.rb hg (fun x e=>by cases e;exact Nat.le_refl _),h.lt⟩
end
theorem gr_rbC {w w1 w2:World} {c:Nat} (h:RB w w1) (hc:w.heap.size<=c) (hg:w1.grownBy w2 (some c)):RB w w2:=rb_row h hg (fun x e=>by cases e;exact hc)
set_option maxRecDepth 100000 in
set_option maxHeartbeats 8000000 in
theorem DrawNodeOk_any (ao:Option Addr) (k cap:Nat) (hk:k<=4096) (w:World) (hr:ByRow w w.heap.size ao k):Calls Tryz.prog 48 #[.slice ao k cap] w fun e w'=>DrN w e w':=by
 have hal:=RB.alloc w (.cells (ndL nd0 ns0).toArray 27);have vR:=ndB_new w nd0 ns0;have hsW:(w.alloc (.cells (ndL nd0 ns0).toArray 27)).heap.size=w.heap.size+1:=World.size_alloc _ _
 have hr1:ByRow (w.alloc (.cells (ndL nd0 ns0).toArray 27)) (w.alloc (.cells (ndL nd0 ns0).toArray 27)).heap.size ao k:=by
  rw[hsW];intro j hj;obtain⟨b,o,v,e,hb,hc,hv⟩:=hr j hj;exact⟨b,o,v,e,by omega,keep_cell hal nl hc,hv⟩
 go_enter Tryz.func48,Tryz.ntmps48
 go_wp2_with fail
 generalize (w.alloc (.cells (ndL nd0 ns0).toArray 27))=W at hal vR hsW hr1 ⊢;refine (l1New_any ao k cap hk _ hr1).mono ?_;rintro e w1 ⟨c,rfl,hC,hb1⟩;have hcg:=hC.ge;have hb:=RB.trans _ _ _ hal hb1;replace vR:NdB w1 w.heap.size nd0 ns0:=VHas.next vR hb1;have hs1:=hb1.size;clear hr1 hr
 go_wp2_with fail
 refine (l11DrawAny_any W.heap.size c ao k cap _ hC).mono ?_;rintro e w2 ⟨n,s,rfl,hO,hz,hgd,hC2,hg2⟩;replace hb:=gr_rbC hb (by omega) hg2;replace vR:NdB w2 w.heap.size nd0 ns0:=VHas.grown vR hg2 (fun e=>by have:=Option.some.inj e;omega);obtain⟨lo,lc,vo,vc,no,nc,mo,mc⟩:=s
 go_wp2_with (first|((with_reducible refine wB 27 (.tmp 2) (.tmp 7) (w.heap.size) (ndL (n) (⟨lo,lc,vo,vc,no,nc,mo,mc⟩)) vR ?_);intro W9 hv9 hg9)|fail)
 obtain⟨q0,q1,q2,q3,q4,q5,q6,q7,q8,q9⟩:=cN hv9;exact bodyPost_ret (v:=ndV n ⟨lo,lc,vo,vc,no,nc,mo,mc⟩) (by simp[results,Tryz.results48,go_sem,q0,q1,q2,q3,q4,q5,q6,q7,q8,q9]) rfl ⟨n,⟨lo,lc,vo,vc,no,nc,mo,mc⟩,rfl,(hO.gr hg9 (ndT vR) (by decide) (by decide)).from (by omega),hz,hgd,gr_rb hb hg9 nl⟩
set_option maxRecDepth 100000 in
set_option maxHeartbeats 8000000 in
theorem DrawTimeout_any (ao:Option Addr) (k cap:Nat) (hk:k<=4096) (w:World) (hr:ByRow w w.heap.size ao k):Calls Tryz.prog 13 #[.slice ao k cap] w fun e w'=>DrN w e w':=by
 have hal:=RB.alloc w (.cells (ndL nd0 ns0).toArray 27);have vR:=ndB_new w nd0 ns0;have hsW:(w.alloc (.cells (ndL nd0 ns0).toArray 27)).heap.size=w.heap.size+1:=World.size_alloc _ _
 have hr1:ByRow (w.alloc (.cells (ndL nd0 ns0).toArray 27)) (w.alloc (.cells (ndL nd0 ns0).toArray 27)).heap.size ao k:=by
  rw[hsW];intro j hj;obtain⟨b,o,v,e,hb,hc,hv⟩:=hr j hj;exact⟨b,o,v,e,by omega,keep_cell hal nl hc,hv⟩
 go_enter Tryz.func13,Tryz.ntmps13
 go_wp2_with fail
 generalize (w.alloc (.cells (ndL nd0 ns0).toArray 27))=W at hal vR hsW hr1 ⊢;refine (DrawNodeOk_any ao k cap hk _ hr1).mono ?_;rintro e w2 ⟨n,s,rfl,hO,hz,hgd,hb2⟩;have hb:=RB.trans _ _ _ hal hb2;replace vR:NdB w2 w.heap.size nd0 ns0:=VHas.next vR hb2;clear hr1 hr;obtain⟨lo,lc,vo,vc,no,nc,mo,mc⟩:=s
 go_wp2_with (first|((with_reducible refine wB 27 (.tmp 2) (.tmp 4) (w.heap.size) (ndL (n) (⟨lo,lc,vo,vc,no,nc,mo,mc⟩)) vR ?_);intro W9 hv9 hg9)|fail)
 obtain⟨q0,q1,q2,q3,q4,q5,q6,q7,q8,q9⟩:=cN hv9;exact bodyPost_ret (v:=ndV n ⟨lo,lc,vo,vc,no,nc,mo,mc⟩) (by simp[results,Tryz.results13,go_sem,q0,q1,q2,q3,q4,q5,q6,q7,q8,q9]) rfl ⟨n,⟨lo,lc,vo,vc,no,nc,mo,mc⟩,rfl,(hO.gr hg9 (ndT vR) (by decide) (by decide)).from (by omega),hz,hgd,gr_rb hb hg9 nl⟩
def DrP (w:World) (e:Ending) (w':World):Prop:=∃ n s t,e=.returned (.tuple #[ndV n s,.string t])/\NdM w' n s/\NdZ n s/\GdW n/\t.size<=1048576/\RB w w'
set_option maxRecDepth 100000 in
set_option maxHeartbeats 16000000 in
theorem DrawPropose_any (ao:Option Addr) (k cap:Nat) (hk:k<=4096) (w:World) (hr:ByRow w w.heap.size ao k):Calls Tryz.prog 20 #[.slice ao k cap] w fun e w'=>DrP w e w':=by
 have hal:=RB.alloc w (.cells (ndL nd0 ns0).toArray 27);have vR:=ndB_new w nd0 ns0;have hsW:(w.alloc (.cells (ndL nd0 ns0).toArray 27)).heap.size=w.heap.size+1:=World.size_alloc _ _
 have hr1:ByRow (w.alloc (.cells (ndL nd0 ns0).toArray 27)) (w.alloc (.cells (ndL nd0 ns0).toArray 27)).heap.size ao k:=by
  rw[hsW];intro j hj;obtain⟨b,o,v,e,hb,hc,hv⟩:=hr j hj;exact⟨b,o,v,e,by omega,keep_cell hal nl hc,hv⟩
 go_enter Tryz.func20,Tryz.ntmps20;refine wp_seq_h' fun K0 hK0=>?_
 go_wp2;refine hK0.out _ _ ?_;clear hK0;generalize (w.alloc (.cells (ndL nd0 ns0).toArray 27))=W at hal vR hsW hr1 ⊢;refine wp_seq_h' fun K0 hK0=>?_
 go_wp2_with fail
 refine (l1New_any ao k cap hk _ hr1).mono ?_;rintro e w1 ⟨c,rfl,hC,hb1⟩;have hcg:=hC.ge;have hb:=RB.trans _ _ _ hal hb1;replace hC:CurAt w1 w.heap.size c ao k cap:=⟨by omega,hC.len,hr.below hb nl,hC.cur⟩
 replace vR:NdB w1 w.heap.size nd0 ns0:=VHas.next vR hb1;have hs1:=hb1.size;clear hr1 hr;go_wp2;refine hK0.out _ _ ?_;clear hK0;refine wp_seq_h' fun K0 hK0=>?_
 go_wp2_with fail
 refine (l11DrawAny_any w.heap.size c ao k cap _ hC).mono ?_;rintro e w2 ⟨n,s,rfl,hO,hz,hgd,hC2,hg2⟩;replace hb:=gr_rbC hb (by omega) hg2;have hs2:=hg2.size;have hg2s:w1.heap.size<=w2.heap.size:=by omega
 replace vR:NdB w2 w.heap.size nd0 ns0:=VHas.grown vR hg2 (fun e=>by have:=Option.some.inj e;omega);obtain⟨lo,lc,vo,vc,no,nc,mo,mc⟩:=s;have hcl1:=hC.lt;have hal2:=RB.alloc w2 (.cells (ndL nd0 ns0).toArray 27);have vN0:=ndB_new w2 nd0 ns0;have vR2:NdB _ w.heap.size nd0 ns0:=VHas.next vR hal2;have hC3:=hC2.next hal2;have hO3:=hO.next hal2
 go_wp2_with (first|((with_reducible refine wB 27 (.tmp 5) (.tmp 9) (w2.heap.size) (ndL (n) (⟨lo,lc,vo,vc,no,nc,mo,mc⟩)) vN0 ?_);intro W3 vN hg3)|fail)
 have hb3:RB w W3:=RB.trans _ _ _ hb (gr_rb hal2 hg3 nl);have hTn:∀ x,some w2.heap.size=some x->Typed _ x 27:=ndT vN0;replace hC3:=hC3.grown hg3 (by omega) (by omega);have vR3:NdB W3 w.heap.size nd0 ns0:=VHas.grown vR2 hg3 (fun e=>by have:=Option.some.inj e;omega);replace hO3:=hO3.gr hg3 hTn (by decide) (by decide)
 have hg3s:w2.heap.size<=W3.heap.size:=by
  have h8:=hg3.size;rw[World.size_alloc]at h8;omega
 clear vN0 vR vR2 hal2 hg3 hTn hO hC hC2 hb1 hg2 hb hal;have hbw:w.heap.size<w2.heap.size:=by omega
 have hcb:c<w2.heap.size:=Nat.lt_of_lt_of_le hcl1 hg2s;have hsB3:w1.heap.size<=W3.heap.size:=by have:=hg3s;omega
 generalize w2.heap.size=b5 at vN hbw hcb ⊢;generalize hBs:w1.heap.size=B1 at hO3 hsB3;have hB1:w.heap.size+1<=B1/\c<B1:=by rw[<-hBs];omega
 clear hBs hcl1 hs2 hs1;refine hK0.out _ _ ?_;clear hK0;refine wp_seq_k fun K1 hK1=>?_
 go_cut [] (fun wc=>CurAt wc w.heap.size c ao k cap/\NdB wc w.heap.size nd0 ns0/\RB w wc/\∃ n s,NdB wc b5 n s/\NdM wc n s/\NdZ n s/\GdW n)
 case first=>
  go_wp2_with fail
  refine (l1Once_any w.heap.size c ao k cap 2 (by omega) (by omega) _ hC3).mono ?_;rintro e w4 ⟨bb,rfl,hC4,hg4⟩;have hs34:=hg4.size;have hTc:∀ x,some c=some x->Typed W3 x 83:=fun x e=>by cases e;exact hC3.typed
  have v4:NdB w4 b5 n ⟨lo,lc,vo,vc,no,nc,mo,mc⟩:=VHas.gr vN hg4 hTc (by decide);have vR4:NdB w4 w.heap.size nd0 ns0:=VHas.grown vR3 hg4 (fun e=>by have:=Option.some.inj e;omega);have hO4:=hO3.gr hg4 hTc (by decide) (by decide);have hb4:=gr_rbC hb3 (by omega) hg4;clear hTc hg4 hC3 vN vR3 hO3 hb3;have hmeet:∃ n s,NdB w4 b5 n s/\NdM w4 n s/\NdZ n s/\GdW n:=⟨n,⟨lo,lc,vo,vc,no,nc,mo,mc⟩,v4,hO4.M,hz,hgd⟩
  replace hmeet:Hid _:=hmeet;cases bb
  ·go_wp2
   go_meet
   case rel=>exact⟨hC4,vR4,hb4,hmeet.out⟩
  obtain⟨f0,f1,f2,f3,f4,f5,f6,f7,f8,f9⟩:=cN v4
  go_wp2_with fail
  refine (specNodeOk_any n ⟨lo,lc,vo,vc,no,nc,mo,mc⟩ hz _ hO4.M).mono ?_;rintro e w5 ⟨rfl,hb5⟩;rw[hgd.R];have v5:NdB w5 b5 n ⟨lo,lc,vo,vc,no,nc,mo,mc⟩:=VHas.next v4 hb5;have vR5:NdB w5 w.heap.size nd0 ns0:=VHas.next vR4 hb5;have hO5:=hO4.next hb5;have hC5:=hC4.next hb5;have hbw5:=RB.trans _ _ _ hb4 hb5;have hsB5:B1<=w5.heap.size:=Nat.le_trans hsB3 (Nat.le_trans hs34 hb5.size);have hmeet5:Hid (∃ n s,NdB w5 b5 n s/\NdM w5 n s/\NdZ n s/\GdW n):=⟨n,⟨lo,lc,vo,vc,no,nc,mo,mc⟩,v5,hO5.M,hz,hgd⟩
  clear hmeet v4 vR4 hO4 hC4 hb4 hb5 f0 f1 f2 f3 f4 f5 f6 f7 f8 f9;obtain⟨f0,f1,f2,f3,f4,f5,f6,f7,f8,f9⟩:=cN v5;rcases Bool.eq_false_or_eq_true (nodeB n) with hB|hB
  rotate_left
  ·rw[hB]
   go_wp2
   go_meet
   case rel=>exact⟨hC5,vR5,hbw5,hmeet5.out⟩
  rw[hB];have hW:=hgd.ok hB
  by_cases hr3:n.role=3
  ·have hr3':(n.role != 3)=false:=by simp[hr3]
   clear hr3;go_wp2
   go_meet
   case rel=>exact⟨hC5,vR5,hbw5,hmeet5.out⟩
  have hr3':(n.role != 3)=true:=by simp[hr3]
  by_cases ht:0<n.term
  rotate_left
  ·clear hr3
   go_wp2
   go_meet
   case rel=>exact⟨hC5,vR5,hbw5,hmeet5.out⟩
  have hr3:Hid (n.role≠3):=hr3;have hbk:Hid (Bk n):=hW.b
  go_wp2_with fail
  clear f0 f1 f2 f3 f4 f5 f6 f7 f8 f9;have hsB:B1<=w5.heap.size:=hsB5;have hfew:=hW.few;refine (specLead_any n ⟨lo,lc,vo,vc,no,nc,mo,mc⟩ hz b5 B1 hbk.out.p hbk.out.i hbk.out.c.1 ht _ hsB v5 hO5).mono ?_;rintro e w6 ⟨v6,s6,rfl,vB,hO6,_,g6⟩;have hlo:∀ z,blk lo=some z->B1<=z:=fun z e=>(GOwn.at hO5.l (x:=z) (by rw[ownBlk_eq];exact e)).1
  have hC6:=hC5.g2 g6 (by omega) (by omega) (fun z e=>by have h7:=hlo z e;omega);have vR6:NdB w6 w.heap.size nd0 ns0:=VHas.g2 vR5 g6 (by omega) (fun q=>by have h7:=hlo _ q;omega);have hb6:RB w w6:=g6.new hbw5 (by omega) (fun z e=>by have h7:=hlo z e;omega);have hld:=OkW.ld hbk.out hW.votes ht;have hz6:NdZ (ldN n) s6:=hld.zz (ldN_tx hz.tx) (GOwn.cap hO6.l) (GOwn.cap hO6.v) (GOwn.cap hO6.x) (GOwn.cap hO6.m);have hgd6:=hld.G;have hM6:=hO6.M;clear hmeet5 g6 hO5 v5 vR5 hC5 hbw5 hlo;go_wp2
  go_meet
  case rel=>exact⟨hC6,vR6,hb6,ldN n,s6,vB,hM6,hz6,hgd6⟩
 case rest=>
  obtain⟨hC4,vR4,hb4,n2,s2,v4,hM4,hz4,hgd4⟩:=hcut;clear hC3 vN vR3 hO3 hb3 hz hgd;refine hK1 _ _ ?_;clear hK1
  go_wp2_with fail
  refine (l1Once_any w.heap.size c ao k cap 10 (by omega) (by omega) _ hC4).mono ?_;rintro e w5 ⟨bb,rfl,hC5,hg5⟩;obtain⟨lo,lc,vo,vc,no,nc,mo,mc⟩:=s2;have hP0:DPr w c ao k cap b5 n2 ⟨lo,lc,vo,vc,no,nc,mo,mc⟩ _:=⟨hC4,v4,hM4,⟨_,vR4⟩,hb4,by omega,hbw⟩
  have hP5:=hP0.rd hC5 hg5;clear hP0 hC4 v4 hM4 vR4 hb4 hC5 hg5;cases bb
  ·go_wp2_with fail
   have hG0:=hP5.next (show RB w5 w5.drew from (Below.refl _ _).drew)
   refine region_wr (by kernel_rfl) (by kernel_rfl) (by kernel_rfl) (fun W5=>DPr w c ao k cap b5 n2 ⟨lo,lc,vo,vc,no,nc,mo,mc⟩ W5) hG0 (fun i=>if i=2 then (fun (u v:World)=>u.grownBy v (some c)/\(CurAt u w.heap.size c ao k cap->CurAt v w.heap.size c ao k cap)) else if i=3 then TurnR w.heap.size else RB) [2,3]
    [isV (ndV n2 ⟨lo,lc,vo,vc,no,nc,mo,mc⟩),isV (.pointer (some ⟨c,0,none⟩)),TvT,(fun (v:Value) (W:World)=>NdB W w.heap.size n2 ⟨lo,lc,vo,vc,no,nc,mo,mc⟩),TvT]
    [] [(3,0)] [] (by kernel_rfl) (by kernel_rfl) ⟨isV.rb,isV.rb,TvT.rb,(fun _ _ _ h hb=>VHas.next h hb),TvT.rb,trivial⟩ (fun i h=>by simp at h;simp[h]) ?_ ?_ ?_
   ·intro i hi j hj hne hx hd v w1 w2 hp hG hR
    simp only[List.mem_cons,List.not_mem_nil,or_false]at hi;rcases hi with rfl|rfl
    ·have hj2:j<5:=hj
     have hj3:j=0\/j=1\/j=2\/j=3\/j=4:=by omega
     rcases hj3 with rfl|rfl|rfl|rfl|rfl
     ·exact hp
     ·exact hp
     ·exact absurd rfl hne
     ·exact VHas.gr hp hR.1 (fun x e=>by cases e;exact hG.cur.typed) (by decide)
     ·exact hp
    ·have hj2:j<5:=hj
     have hj3:j=0\/j=1\/j=2\/j=3\/j=4:=by omega
     rcases hj3 with rfl|rfl|rfl|rfl|rfl
     ·exact hp
     ·exact hp
     ·exact hp
     ·exact absurd rfl hne
     ·exact hp
   ·refine allEx_cons ?_ (allEx_cons ?_ (allEx_cons ?_ (allEx_cons ?_ (allEx_cons ?_ (allEx_nil)))))
    ·exact xq rfl rfl fun ev w9 v hG E pr=>by
      have e1:=E.was 5 _;exact exec_nd rfl e1 hG.nb
    ·exact xq rfl rfl fun ev w9 v hG E pr=>by
      have e1:=E.was 4 _;simp[go_sem,e1]
    ·exact ExOk.call rfl fun ev w9 v hG E pr=>by
      have e1:ev (.tmp 36)=.pointer (some ⟨c,0,none⟩):=E.tld pr 1 36;refine⟨57,#[.pointer (some ⟨c,0,none⟩)],by simp[go_sem,e1,E.fn],?_⟩;refine (l10DrawText_any w.heap.size c ao k cap w9 hG.cur).mono ?_;rintro e w8 ⟨t,rfl,ht,hC8,hg8⟩;exact⟨_,rfl,⟨hg8,fun _=>hC8⟩,hG.rd hC8 hg8,t,rfl,by omega⟩
    ·exact ExOk.skip rfl (by decide) fun ev w9 v hG E pr=>by
      have e1:=E.was 2 _;have e2:ev (.tmp 35)=ndV n2 ⟨lo,lc,vo,vc,no,nc,mo,mc⟩:=E.tld pr 0 35;obtain⟨f0,hf0⟩:=hG.res;have hg:w9.grownBy (setL w9 w.heap.size 0 (ndL n2 ⟨lo,lc,vo,vc,no,nc,mo,mc⟩)) (some w.heap.size):=gr_setL _ _ 0 _;have hv:=vhas_box (ndL n2 ⟨lo,lc,vo,vc,no,nc,mo,mc⟩) hf0;exact⟨_,exec_box (ndL n2 ⟨lo,lc,vo,vc,no,nc,mo,mc⟩) rfl e1 e2 hf0 (by kernel_rfl) (oneAll (by kernel_rfl)),hg,hG.put hg hv,hv⟩
    ·exact ExOk.val rfl fun ev w9 v hG E pr=>⟨ev (.tmp 37),w9,by simp[go_sem],RB.refl _,hG,E.tld pr 2 37⟩
   ·intro v8 W8 hG8 hp8
    have p3:((fun (v:Value) (W:World)=>NdB W w.heap.size n2 ⟨lo,lc,vo,vc,no,nc,mo,mc⟩)) (v8 0) W8:=hp8 3 (by decide) (by kernel_rfl);have p4:(TvT) (v8 4) W8:=hp8 4 (by decide) (by kernel_rfl);clear hp8;obtain⟨tt,e4,htt⟩:TvT (v8 4) W8:=p4;simp only[putL,Nat.zero_add,Nat.reduceAdd,Act.put,List.setIfInBounds_toArray,List.set_cons_zero,List.set_cons_succ,e4];obtain⟨q0,q1,q2,q3,q4,q5,q6,q7,q8,q9⟩:=cN p3;go_wp2;exact bodyPost_ret (v:=.tuple #[ndV n2 ⟨lo,lc,vo,vc,no,nc,mo,mc⟩,.string tt]) (by simp[results,Tryz.results20,go_sem,q0,q1,q2,q3,q4,q5,q6,q7,q8,q9]) rfl ⟨n2,⟨lo,lc,vo,vc,no,nc,mo,mc⟩,tt,rfl,hG8.m,hz4,hgd4,htt,hG8.rb⟩
  ·go_wp2_with fail
   have hG0:=hP5.next (show RB w5 w5.drew from (Below.refl _ _).drew)
   refine region_wr (by kernel_rfl) (by kernel_rfl) (by kernel_rfl) (fun W5=>DPr w c ao k cap b5 n2 ⟨lo,lc,vo,vc,no,nc,mo,mc⟩ W5) hG0 (fun i=>if i=3 then (fun (u v:World)=>u.grownBy v (some c)/\(CurAt u w.heap.size c ao k cap->CurAt v w.heap.size c ao k cap)) else if i=6 then TurnR w.heap.size else RB) [3,6]
    [isV (ndV n2 ⟨lo,lc,vo,vc,no,nc,mo,mc⟩),S4x (c+1),isV (.pointer (some ⟨c,0,none⟩)),IxV 4,P4x (c+1),TvT,(fun (v:Value) (W:World)=>NdB W w.heap.size n2 ⟨lo,lc,vo,vc,no,nc,mo,mc⟩),TvT]
    [] [(6,0)] [] (by kernel_rfl) (by kernel_rfl) ⟨isV.rb,S4x.rb,isV.rb,IxV.rb,P4x.rb,TvT.rb,(fun _ _ _ h hb=>VHas.next h hb),TvT.rb,trivial⟩ (fun i h=>by simp at h;simp[h]) ?_ ?_ ?_
   ·intro i hi j hj hne hx hd v w1 w2 hp hG hR
    simp only[List.mem_cons,List.not_mem_nil,or_false]at hi;rcases hi with rfl|rfl
    ·have hj2:j<8:=hj
     have hj3:j=0\/j=1\/j=2\/j=3\/j=4\/j=5\/j=6\/j=7:=by omega
     rcases hj3 with rfl|rfl|rfl|rfl|rfl|rfl|rfl|rfl
     ·exact hp
     ·exact S4x.gr hp hR.1 (by omega)
     ·exact hp
     ·exact absurd rfl hne
     ·exact P4x.gr hp hR.1 (by omega)
     ·exact hp
     ·exact VHas.gr hp hR.1 (fun x e=>by cases e;exact hG.cur.typed) (by decide)
     ·exact hp
    ·have hj2:j<8:=hj
     have hj3:j=0\/j=1\/j=2\/j=3\/j=4\/j=5\/j=6\/j=7:=by omega
     rcases hj3 with rfl|rfl|rfl|rfl|rfl|rfl|rfl|rfl
     ·exact hp
     ·exact S4x.gr hp hR (by have:=hG.lt;omega)
     ·exact hp
     ·exact hp
     ·exact P4x.gr hp hR (by have:=hG.lt;omega)
     ·exact hp
     ·exact absurd rfl hne
     ·exact hp
   ·refine allEx_cons ?_ (allEx_cons ?_ (allEx_cons ?_ (allEx_cons ?_ (allEx_cons ?_ (allEx_cons ?_ (allEx_cons ?_ (allEx_cons ?_ (allEx_nil))))))))
    ·exact xq rfl rfl fun ev w9 v hG E pr=>by
      have e1:=E.was 5 _;exact exec_nd rfl e1 hG.nb
    ·exact ExOk.val rfl fun ev w9 v hG E pr=>⟨.slice (some ⟨w9.heap.size,0,none⟩) 4 4,w9.alloc (.cells #[.string (ByteArray.mk #[]),.string (ByteArray.mk #[97,115,107]),.string (ByteArray.mk #[110,111,110,101,32]),.string (ByteArray.mk #[119,101,105,103,104,32,48,32,49,32,48])] 9),(by (simp[go_sem,E.con])<;>rfl),RB.alloc _ _,hG.next (RB.alloc _ _),w9.heap.size,_,_,_,_,rfl,(by have:=hG.cur.lt;omega),by decide,box_new w9 [.string (ByteArray.mk #[]),.string (ByteArray.mk #[97,115,107]),.string (ByteArray.mk #[110,111,110,101,32]),.string (ByteArray.mk #[119,101,105,103,104,32,48,32,49,32,48])] 9⟩
    ·exact xq rfl rfl fun ev w9 v hG E pr=>by
      have e1:=E.was 4 _;simp[go_sem,e1]
    ·exact ExOk.call rfl fun ev w9 v hG E pr=>by
      have e1:ev (.tmp 31)=.pointer (some ⟨c,0,none⟩):=E.tld pr 2 31;refine⟨27,#[.pointer (some ⟨c,0,none⟩),.int .i64 4],by simp[go_sem,e1,E.con,E.fn],?_⟩;refine (l1Below_any w.heap.size c ao k cap 4 (by omega) (by omega) w9 hG.cur).mono ?_;rintro e w8 ⟨x,rfl,hx,hC8,hg8⟩;exact⟨_,rfl,⟨hg8,fun _=>hC8⟩,hG.rd hC8 hg8,x,rfl,by omega⟩
    ·exact ExOk.val rfl fun ev w9 v hG E pr=>by
      obtain⟨D,t0,t1,t2,t3,e1,hD,ht,hV⟩:S4x (c+1) (ev (.tmp 30)) w9:=E.tld pr 1 30;obtain⟨x,e2,hx⟩:IxV 4 (ev (.tmp 32)) w9:=E.tld pr 3 32;have hx3:x=0\/x=1\/x=2\/x=3:=by omega
      rcases hx3 with rfl|rfl|rfl|rfl
      ·exact⟨.pointer (some ⟨D,0,none⟩),w9,by simp[go_sem,e1,e2],RB.refl _,hG,D,0,t0,rfl,hD,by omega,4,_,by omega,rfl,hV⟩
      ·exact⟨.pointer (some ⟨D,1,none⟩),w9,by simp[go_sem,e1,e2],RB.refl _,hG,D,1,t1,rfl,hD,by omega,4,_,by omega,rfl,hV⟩
      ·exact⟨.pointer (some ⟨D,2,none⟩),w9,by simp[go_sem,e1,e2],RB.refl _,hG,D,2,t2,rfl,hD,by omega,4,_,by omega,rfl,hV⟩
      ·exact⟨.pointer (some ⟨D,3,none⟩),w9,by simp[go_sem,e1,e2],RB.refl _,hG,D,3,t3,rfl,hD,by omega,4,_,by omega,rfl,hV⟩
    ·exact ExOk.val rfl fun ev w9 v hG E pr=>by
      obtain⟨D,j,t,e1,hD,ht,m9,f9,hj,hf,hV⟩:P4x (c+1) (ev (.tmp 33)) w9:=E.tld pr 4 33;have hc:=VHas.cell hV hj;rw[hf]at hc;exact⟨.string t,w9,by simp[go_sem,e1,hc],RB.refl _,hG,t,rfl,by omega⟩
    ·exact ExOk.skip rfl (by decide) fun ev w9 v hG E pr=>by
      have e1:=E.was 2 _;have e2:ev (.tmp 29)=ndV n2 ⟨lo,lc,vo,vc,no,nc,mo,mc⟩:=E.tld pr 0 29;obtain⟨f0,hf0⟩:=hG.res;have hg:w9.grownBy (setL w9 w.heap.size 0 (ndL n2 ⟨lo,lc,vo,vc,no,nc,mo,mc⟩)) (some w.heap.size):=gr_setL _ _ 0 _;have hv:=vhas_box (ndL n2 ⟨lo,lc,vo,vc,no,nc,mo,mc⟩) hf0;exact⟨_,exec_box (ndL n2 ⟨lo,lc,vo,vc,no,nc,mo,mc⟩) rfl e1 e2 hf0 (by kernel_rfl) (oneAll (by kernel_rfl)),hg,hG.put hg hv,hv⟩
    ·exact ExOk.val rfl fun ev w9 v hG E pr=>⟨ev (.tmp 34),w9,by simp[go_sem],RB.refl _,hG,E.tld pr 5 34⟩
   ·intro v8 W8 hG8 hp8
    have p6:((fun (v:Value) (W:World)=>NdB W w.heap.size n2 ⟨lo,lc,vo,vc,no,nc,mo,mc⟩)) (v8 0) W8:=hp8 6 (by decide) (by kernel_rfl);have p7:(TvT) (v8 7) W8:=hp8 7 (by decide) (by kernel_rfl);clear hp8;obtain⟨tt,e7,htt⟩:TvT (v8 7) W8:=p7;simp only[putL,Nat.zero_add,Nat.reduceAdd,Act.put,List.setIfInBounds_toArray,List.set_cons_zero,List.set_cons_succ,e7];obtain⟨q0,q1,q2,q3,q4,q5,q6,q7,q8,q9⟩:=cN p6;go_wp2;exact bodyPost_ret (v:=.tuple #[ndV n2 ⟨lo,lc,vo,vc,no,nc,mo,mc⟩,.string tt]) (by simp[results,Tryz.results20,go_sem,q0,q1,q2,q3,q4,q5,q6,q7,q8,q9]) rfl ⟨n2,⟨lo,lc,vo,vc,no,nc,mo,mc⟩,tt,rfl,hG8.m,hz4,hgd4,htt,hG8.rb⟩
end
section
open Go.RowKit
attribute [local go_sem ↓] Go.wp_at_zero Go.wp_at_succ
set_option maxHeartbeats 800000 in
theorem likeLog_same (ao ao':Option Addr) (n cap cap':Nat) (T:Nat->Int) (X:Nat->ByteArray) (hn:n<=1048576) (w:World) (hr:NRow w ao n T X) (hr':NRow w ao' n T X):
  Calls Tryz.prog 23 #[.slice ao n cap,.slice ao' n cap'] w fun e w'=>e=.returned (.bool true)/\Below w.heap.size w w':=by
 go_enter Tryz.func23,Tryz.ntmps23;go_wp2
 go_loopw [5] (fun i wr=>∃ k:Nat,k<=n/\i=.int .i64 k/\Below w.heap.size w wr) (fun i _=>n-(intOf i).toNat)
 case atStart=>exact⟨0,Nat.zero_le _,rfl,Below.refl _ _⟩
 case round=>
  obtain⟨k,hk,rfl,hbel⟩:=hrel
  by_cases hlt:k<n
  rotate_left
  ·have hkn:k=n:=by omega
   subst hkn;go_wp2;go_ret;exact⟨rfl,hbel⟩
  obtain⟨b,o,hao,c0,c1⟩:=(hr.below hbel nl) k hlt;obtain⟨b',o',hao',d0,d1⟩:=(hr'.below hbel nl) k hlt;subst hao;subst hao';have hk1:(0:Int)<=(k:Int):=by omega
  have hk2:(k:Int)<(n:Int):=by omega
  go_wp2
  go_quiet (fail)
  go_wp2
  go_roundw
  case rel=>exact⟨k+1,by omega,by go_num,below_drewN hbel _⟩
  case measure=>simp[intOf];omega
end
section
open Go.RowKit

end
section
open Go.ChangeShapes Go.WideShapes Go.ChangeAt Go.RowKit Go.Deep Go.Joins
attribute [local go_sem ↓] Go.wp_at_zero Go.wp_at_succ
theorem big_any (ao:Option Addr) (n cap:Nat) (hn:n<=9223372036854775807) (w:World):Calls Tryz.prog 5 #[.slice ao n cap] w fun e w'=>e=.returned (.bool (decide (4096<n)))/\w'=w:=by
 by_cases h:4096<n
 ·have h':4096<(n:Int):=by omega
  go_enter Tryz.func5,Tryz.ntmps5;go_wp2;go_ret;exact⟨ret_bool (by simp[h]),rfl⟩
 ·have h':¬ 4096<(n:Int):=by omega
  go_enter Tryz.func5,Tryz.ntmps5;go_wp2;go_ret;exact⟨ret_bool (by simp[h]),rfl⟩
set_option maxRecDepth 100000 in
theorem open_bytes {H:Type} {enc:TypeId × Value->H} {w:World} {base:Nat} {spare:Nat->Bool} {held:Bool} {fuel:Nat} {cs:List Value} {x:DataW H × List MemPlace}
  (h:DataW.trod enc Tryz.prog w base spare held fuel 22 cs=some x):
  ∃ (ao:Option Addr) (n cap:Nat),cs=[.slice ao n cap]/\n<=maxLen/\ByRow w w.heap.size ao n:=by
 rcases open_slice Tryz.underlying22 h with ⟨rfl,_⟩|⟨a,len,cap,m,n,D,Pl,rfl,hb,hl,hm,hmm,_,hx⟩
 ·exact⟨none,0,0,rfl,Nat.zero_le _,fun k hk=>by omega⟩
 have hlm:len<=m:=by rw[hmm];split<;>omega
 have cells8:Tryz.prog.cellsOf 5=1:=by kernel_rfl
 have each:∀ i,i<len->∃ q:Int,w.cell? (a.add i)=some (.int .u8 q)/\(Lit.int .u8 q).wf=true:=by
  intro i hi;obtain⟨cs',h1,h2⟩:=hx i (by omega);rw[cells8]at h1;obtain⟨_,hlen,hcell⟩:=World.cells?_some h1
  match cs',hlen with
  | [v0],_=>
   obtain⟨q0,r0,_,f0⟩:=DataW.trod_int Tryz.underlying5 h2;have e0:=hcell 0 (by omega);rw[add_add]at e0;simp at r0;subst r0;exact⟨q0,by simpa using e0,f0⟩
 refine⟨some a,len,cap,rfl,by omega,fun k hk=>?_⟩;obtain⟨q,hq,hwf⟩:=each k hk;obtain⟨b,o,spot⟩:=a
 have hspot:spot=none:=by
  obtain⟨_,hq0,_⟩:=each 0 (by omega);have:=World.cell?_spot hq0;simpa[Addr.add] using this
 subst hspot;rw[Addr.add_mid]at hq
 have h8:0<=q/\q<=255:=by
  have h1:IntKind.min .u8=0:=by decide
  have h2:IntKind.max .u8=255:=by decide
  simp only[Lit.wf,h1,h2,Bool.and_eq_true,decide_eq_true_eq]at hwf;exact hwf
 exact⟨b,o,q,rfl,lt_of_cell hq,hq,h8.1,h8.2⟩
theorem ByRow.up {w W:World} {ao:Option Addr} {n:Nat} (h:ByRow w w.heap.size ao n) (hb:Below w.heap.size w W):ByRow W W.heap.size ao n:=fun k hk=>by
 obtain⟨b,o,v,e,hlt,hc,hv⟩:=(h.below hb nl) k hk;exact⟨b,o,v,e,Nat.lt_of_lt_of_le hlt hb.size,hc,hv⟩
set_option maxHeartbeats 800000 in
theorem likeInts_same (ao ao':Option Addr) (n cap cap':Nat) (f:Nat->Int) (hn:n<=1048576) (w:World) (hr:IRow w ao n f) (hr':IRow w ao' n f):
  Calls Tryz.prog 39 #[.slice ao n cap,.slice ao' n cap'] w fun e w'=>e=.returned (.bool true)/\Below w.heap.size w w':=by
 go_enter Tryz.func39,Tryz.ntmps39;go_wp2
 go_loopw [5] (fun i wr=>∃ k:Nat,k<=n/\i=.int .i64 k/\Below w.heap.size w wr) (fun i _=>n-(intOf i).toNat)
 case atStart=>exact⟨0,Nat.zero_le _,rfl,Below.refl _ _⟩
 case round=>
  obtain⟨k,hk,rfl,hbel⟩:=hrel
  by_cases hlt:k<n
  rotate_left
  ·have hkn:k=n:=by omega
   subst hkn;go_wp2;go_ret;exact⟨rfl,hbel⟩
  obtain⟨b,o,hao,c0⟩:=(hr.below hbel nl) k hlt;obtain⟨b',o',hao',d0⟩:=(hr'.below hbel nl) k hlt;subst hao;subst hao';have hk1:(0:Int)<=(k:Int):=by omega
  have hk2:(k:Int)<(n:Int):=by omega
  go_wp2
  go_quiet (fail)
  go_wp2
  go_roundw
  case rel=>exact⟨k+1,by omega,by go_num,below_drewN hbel _⟩
  case measure=>simp[intOf];omega
end
section
open Go Go.RowKit
attribute [local go_sem ↓] Go.wp_at_zero Go.wp_at_succ
set_option maxRecDepth 100000 in
set_option maxHeartbeats 8000000 in
theorem likeNode_same (n:Nd) (s s':NdS) (hl:n.log.length<=1048576) (hv:n.votes.length<=1048576) (hx:n.next.length<=1048576) (hm:n.mat.length<=1048576) (w:World) (hM:NdM w n s) (hM':NdM w n s'):Calls Tryz.prog 9 #[ndV n s,ndV n s'] w fun e w'=>e=.returned (.bool true)/\RB w w':=by
 obtain⟨lo,lc,vo,vc,no,nc,mo,mc⟩:=s;obtain⟨lo2,lc2,vo2,vc2,no2,nc2,mo2,mc2⟩:=s';have hM0:Hid (NdM w n ⟨lo,lc,vo,vc,no,nc,mo,mc⟩):=hM;have hM1:Hid (NdM w n ⟨lo2,lc2,vo2,vc2,no2,nc2,mo2,mc2⟩):=hM';clear hM hM';have hb:=RB.trans _ _ _ (RB.alloc w (.cells (ndL n ⟨lo,lc,vo,vc,no,nc,mo,mc⟩).toArray 27)) (RB.alloc _ (.cells (ndL n ⟨lo2,lc2,vo2,vc2,no2,nc2,mo2,mc2⟩).toArray 27));have vA:NdB _ w.heap.size n ⟨lo,lc,vo,vc,no,nc,mo,mc⟩:=(ndB_new w n ⟨lo,lc,vo,vc,no,nc,mo,mc⟩).next (RB.alloc _ (.cells (ndL n ⟨lo2,lc2,vo2,vc2,no2,nc2,mo2,mc2⟩).toArray 27));have vB:=ndB_new (w.alloc (.cells (ndL n ⟨lo,lc,vo,vc,no,nc,mo,mc⟩).toArray 27)) n ⟨lo2,lc2,vo2,vc2,no2,nc2,mo2,mc2⟩;rw[World.size_alloc]at vB;go_enter Tryz.func9,Tryz.ntmps9;refine wp_seq_h' fun K0 hK0=>?_
 go_wp2;refine hK0.out _ _ ?_;clear hK0;generalize ((w.alloc _).alloc _)=W at hb vA vB ⊢;obtain⟨f0,f1,f2,f3,f4,f5,f6,f7,f8,f9⟩:=cN vA;obtain⟨g0,g1,g2,g3,g4,g5,g6,g7,g8,g9⟩:=cN vB
 go_wp2_with fail
 refine (likeLog_same lo lo2 n.log.length lc lc2 (tOf n.log) (xOf n.log) hl _ ((hM0.out.next hb).l.n) ((hM1.out.next hb).l.n)).mono ?_;rintro e w1 ⟨rfl,hb1⟩;replace vA:NdB w1 w.heap.size n ⟨lo,lc,vo,vc,no,nc,mo,mc⟩:=VHas.next vA hb1;replace vB:NdB w1 (w.heap.size+1) n ⟨lo2,lc2,vo2,vc2,no2,nc2,mo2,mc2⟩:=VHas.next vB hb1;replace hb:=RB.trans _ _ _ hb hb1;clear hb1 f0 f1 f2 f3 f4 f5 f6 f7 f8 f9 g0 g1 g2 g3 g4 g5 g6 g7 g8 g9;obtain⟨f0,f1,f2,f3,f4,f5,f6,f7,f8,f9⟩:=cN vA;obtain⟨g0,g1,g2,g3,g4,g5,g6,g7,g8,g9⟩:=cN vB
 go_wp2_with fail
 refine (likeInts_same vo vo2 n.votes.length vc vc2 (iOf n.votes) hv _ ((hM0.out.next hb).v.i) ((hM1.out.next hb).v.i)).mono ?_;rintro e w2 ⟨rfl,hb2⟩;replace vA:NdB w2 w.heap.size n ⟨lo,lc,vo,vc,no,nc,mo,mc⟩:=VHas.next vA hb2;replace vB:NdB w2 (w.heap.size+1) n ⟨lo2,lc2,vo2,vc2,no2,nc2,mo2,mc2⟩:=VHas.next vB hb2;replace hb:=RB.trans _ _ _ hb hb2;clear hb2 f0 f1 f2 f3 f4 f5 f6 f7 f8 f9 g0 g1 g2 g3 g4 g5 g6 g7 g8 g9;obtain⟨f0,f1,f2,f3,f4,f5,f6,f7,f8,f9⟩:=cN vA;obtain⟨g0,g1,g2,g3,g4,g5,g6,g7,g8,g9⟩:=cN vB
 go_wp2_with fail
 refine (likeInts_same no no2 n.next.length nc nc2 (iOf n.next) hx _ ((hM0.out.next hb).x.i) ((hM1.out.next hb).x.i)).mono ?_;rintro e w3 ⟨rfl,hb3⟩;replace vA:NdB w3 w.heap.size n ⟨lo,lc,vo,vc,no,nc,mo,mc⟩:=VHas.next vA hb3;replace vB:NdB w3 (w.heap.size+1) n ⟨lo2,lc2,vo2,vc2,no2,nc2,mo2,mc2⟩:=VHas.next vB hb3;replace hb:=RB.trans _ _ _ hb hb3;clear hb3 f0 f1 f2 f3 f4 f5 f6 f7 f8 f9 g0 g1 g2 g3 g4 g5 g6 g7 g8 g9;obtain⟨f0,f1,f2,f3,f4,f5,f6,f7,f8,f9⟩:=cN vA;obtain⟨g0,g1,g2,g3,g4,g5,g6,g7,g8,g9⟩:=cN vB
 go_wp2_with fail
 refine (likeInts_same mo mo2 n.mat.length mc mc2 (iOf n.mat) hm _ ((hM0.out.next hb).m.i) ((hM1.out.next hb).m.i)).mono ?_;rintro e w4 ⟨rfl,hb4⟩;replace hb:=RB.trans _ _ _ hb hb4;clear f0 f1 f2 f3 f4 f5 f6 f7 f8 f9 g0 g1 g2 g3 g4 g5 g6 g7 g8 g9;go_wp2;simp[bodyPost,results,Tryz.results9,go_sem];exact hb
set_option maxRecDepth 100000 in
set_option maxHeartbeats 8000000 in
theorem likeNet_same (ms:List Ms) (v v':Value) (b b':Nat) (hl:ms.length<=1048576) (hms:∀ m∈ms,m.ents.length<=1048576) (w:World) (hN:NetV b ms v w) (hN':NetV b' ms v' w):Calls Tryz.prog 10 #[v,v'] w fun e w'=>e=.returned (.bool true)/\RB w w':=by
 obtain⟨ao,ac,l,rfl,hl1,hN⟩:=hN;obtain⟨bo,bc,k,rfl,hl2,hN'⟩:=hN';have e1:l.length=ms.length:=by rw[<-hl1,List.length_map]
 have e2:k.length=ms.length:=by rw[<-hl2,List.length_map]
 rw[e1,e2];go_enter Tryz.func10,Tryz.ntmps10;go_wp2
 go_loopw [5,6,7] (fun x5 x6 x7 wr=>∃ i:Nat,i<=ms.length/\x5=.int .i64 (i:Int)/\RB w wr) (fun x _ _ _=>ms.length-(intOf x).toNat)
 case atStart=>exact⟨0,Nat.zero_le _,rfl,RB.refl _⟩
 case round=>
  obtain⟨i,hi,rfl,hR⟩:=hrel
  by_cases hlt:i<ms.length
  rotate_left
  ·have hge:¬ ((i:Int)<(ms.length:Int)):=by omega
   go_wp2;simp[bodyPost,results,Tryz.results10,go_sem];exact hR
  obtain⟨z,hz⟩:∃ z,l[i]?=some z:=⟨l[i],by simp[e1,hlt]⟩
  obtain⟨y,hy⟩:∃ y,k[i]?=some y:=⟨k[i],by simp[e2,hlt]⟩
  have hzy:z.m=y.m:=by
   have h1:ms[i]?=some z.m:=by rw[<-hl1,List.getElem?_map,hz];rfl
   have h2:ms[i]?=some y.m:=by rw[<-hl2,List.getElem?_map,hy];rfl
   rw[h1]at h2;exact Option.some.inj h2
  have hzm:z.m∈ms:=by rw[<-hl1];exact List.mem_map_of_mem (List.mem_of_getElem? hz)
  have hze:=hms z.m hzm;have oz:=(hN.e z (List.mem_of_getElem? hz)).next hR;have oy:=(hN'.e y (List.mem_of_getElem? hy)).next hR;have rz:=GOwn.lrow (hN.o.next hR) (nlc_len l);have ry:=GOwn.lrow (hN'.o.next hR) (nlc_len k);obtain⟨zm,ze,zc⟩:=z;obtain⟨ym,ye,yc⟩:=y;simp only at hzy hze oz oy;subst hzy;obtain⟨za,eza,_,_⟩:=GOwn.vhas hN.o (by omega);obtain⟨ya,eya,_,_⟩:=GOwn.vhas hN'.o (by omega);subst eza;subst eya;have f0:=nlc_row rz hz 0 (by omega);have g0:=nlc_row ry hy 0 (by omega);have f1:=nlc_row rz hz 1 (by omega);have g1:=nlc_row ry hy 1 (by omega);have f2:=nlc_row rz hz 2 (by omega);have g2:=nlc_row ry hy 2 (by omega);have f3:=nlc_row rz hz 3 (by omega);have g3:=nlc_row ry hy 3 (by omega);have f4:=nlc_row rz hz 4 (by omega);have g4:=nlc_row ry hy 4 (by omega);have f5:=nlc_row rz hz 5 (by omega);have g5:=nlc_row ry hy 5 (by omega);have f6:=nlc_row rz hz 6 (by omega);have g6:=nlc_row ry hy 6 (by omega);have f7:=nlc_row rz hz 7 (by omega);have g7:=nlc_row ry hy 7 (by omega);have f8:=nlc_row rz hz 8 (by omega);have g8:=nlc_row ry hy 8 (by omega);simp[lf]at f0 f1 f2 f3 f4 f5 f6 f7 f8 g0 g1 g2 g3 g4 g5 g6 g7 g8;have hi0:(0:Int)<=(i:Int):=by omega
  have hil:(i:Int)<(ms.length:Int):=by omega
  have hwi:IntKind.i64.wrap ((i:Int)+1)=(i:Int)+1:=by rw[IntKind.wrap_i64];omega
  have hal:=RB.alloc wr (.cells (msL ms0 none 0).toArray 29);have vA:=msB_new wr ms0 none 0;have hRa:=RB.trans _ _ _ hR hal
  go_wp2_with (first|((with_reducible refine wB 29 (.tmp 6) (.tmp 22) wr.heap.size (msL zm ze zc) vA ?_);intro W2 vA2 gA;have hR2:RB wr W2:=gr_rb hal gA nl;have hal2:=RB.alloc W2 (.cells (msL ms0 none 0).toArray 29);have vB:=msB_new W2 ms0 none 0;have hsz2:wr.heap.size<W2.heap.size:=vA2.lt;replace g0:=keep_cell hR2 nl g0;replace g1:=keep_cell hR2 nl g1;replace g2:=keep_cell hR2 nl g2;replace g3:=keep_cell hR2 nl g3;replace g4:=keep_cell hR2 nl g4;replace g5:=keep_cell hR2 nl g5;replace g6:=keep_cell hR2 nl g6;replace g7:=keep_cell hR2 nl g7;replace g8:=keep_cell hR2 nl g8)|((with_reducible refine wB 29 (.tmp 7) (.tmp 26) W2.heap.size (msL zm ye yc) vB ?_);intro W3 vB3 gB;have vA3:MsB W3 wr.heap.size zm ze zc:=(VHas.grown (VHas.next vA2 hal2) gB (fun e=>by have:=Option.some.inj e;omega));have hR3:RB wr W3:=RB.trans _ _ _ hR2 (gr_rb hal2 gB nl);clear f0 f1 f2 f3 f4 f5 f6 f7 f8 g0 g1 g2 g3 g4 g5 g6 g7 g8;obtain⟨f0,f1,f2,f3,f4,f5,f6,f7,f8⟩:=cM vA3;obtain⟨g0,g1,g2,g3,g4,g5,g6,g7,g8⟩:=VHas.c9 vB3 (by simp);simp[lf]at g0 g1 g2 g3 g4 g5 g6 g7 g8)|fail)
  have hR4:=RB.trans _ _ _ hR hR3;refine (likeLog_same ze ye zm.ents.length zc yc (tOf zm.ents) (xOf zm.ents) hze _ ((oz.next hR3).row.n) ((oy.next hR3).row.n)).mono ?_;rintro e w5 ⟨rfl,hb5⟩;have hR5:=RB.trans _ _ _ hR4 hb5;have vA5:MsB w5 wr.heap.size zm ze zc:=VHas.next vA3 hb5;have vB5:MsB w5 W2.heap.size zm ye yc:=VHas.next vB3 hb5;clear f0 f1 f2 f3 f4 f5 f6 f7 f8 g0 g1 g2 g3 g4 g5 g6 g7 g8;obtain⟨f0,f1,f2,f3,f4,f5,f6,f7,f8⟩:=cM vA5;obtain⟨g0,g1,g2,g3,g4,g5,g6,g7,g8⟩:=cM vB5;go_wp2
  go_roundw
  case rel=>first|exact⟨i+1,by omega,by go_num,hR5⟩|exact⟨i+1,by omega,by go_num⟩
  case measure=>simp[intOf];omega
end
end Go.Proofs.YtbabakgjkloabaaGreatDoor
