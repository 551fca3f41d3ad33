/-
  Helpers: Cl2, Cl3, Cl4, SrR, Bsi.
-/
import Derived.Test.YtbabakgjkloabaaGreatDoorPack20
set_option linter.unusedVariables false
set_option linter.unusedSimpArgs false
set_option maxRecDepth 100000
set_option maxHeartbeats 16000000
namespace Go.Proofs.YtbabakgjkloabaaGreatDoor
section
open Go Go.RowKit
attribute [local go_sem ↓] Go.wp_at_zero Go.wp_at_succ
theorem kI{B:Nat}{w W W':World}{row:Option Nat}(h:Below B w W)(hB:B<=w.heap.size)(hg:W.grownBy W' row)(hx:∀ x,row=some x->B<=x):Below B w W':=
 ⟨hg.os.trans h.os,hg.tape.trans h.tape,hg.output.trans h.output,Nat.le_trans h.size hg.size,fun k hk=>(hg.block k (by have:=h.size;omega) (fun q=>by have:=hx k q.symm;omega)).trans (h.block k hk)⟩
theorem aN{B:Nat}{w W W':World}(h:Below B w W)(hB:B<=w.heap.size)(hb:RB W W'):Below B w W':=
 ⟨hb.os.trans h.os,hb.tape.trans h.tape,hb.output.trans h.output,Nat.le_trans h.size hb.size,fun k hk=>(hb.block k (by have:=h.size;omega)).trans (h.block k hk)⟩
def MgB(z:Mq)(v:Value)(w:World):Prop:=∃ B,v=.slice (some ⟨B,0,none⟩) 1 1/\MsB w B z.m z.eo z.ec
theorem MgB.rb{z:Mq}(v:Value)(w w':World)(h:MgB z v w)(hb:RB w w'):MgB z v w':=by
 obtain⟨B,e,h⟩:=h;exact⟨B,e,vn h hb⟩
def NtA(base lb:Nat)(l:List Mq)(v:Value)(w:World):Prop:=∃ a c,v=.slice a l.length c/\NetO w base a c l/\∀ x,(Value.slice a l.length c).ownBlock=some x->x≠lb
theorem NtA.rb{base lb:Nat}{l:List Mq}(v:Value)(w w':World)(h:NtA base lb l v w)(hb:RB w w'):NtA base lb l v w':=by
 obtain⟨a,c,e,h,k⟩:=h;exact⟨a,c,e,h.next hb,k⟩
theorem CF{o:Oper}{ev:Operand->Value}{x y:Operand}{base lb:Nat}{l:List Mq}{ao:Option Addr}{cap:Nat}{z:Mq}{w:World}(ho:o.op=.call { callee:=.builtin .append,args:=#[x,y],argTypes:=#[32,32] })(hx:ev x=.slice ao l.length cap)(hN:NetO w base ao cap l)(hy:MgB z (ev y) w)(hz:OwE w base z.eo z.ec z.m.ents)(hl:l.length<=1000)(hb:base<=w.heap.size)(hlb:lb<w.heap.size)(hne:∀ x,(Value.slice ao l.length cap).ownBlock=some x->x≠lb):
  ∃ u w',(execOp ev o).run Tryz.prog w=.ok (.value u) w'/\NtA base lb (l++[z]) u w'/\w.grownBy w' (Value.slice ao l.length cap).ownBlock:=by
 obtain⟨B,e2,hB⟩:=hy
 have hgr:GRow w (some ⟨B,0,none⟩) (1*9) (fun j=>if j<9 then lf (bZ z.m z.eo z.ec) j else .bool false):=fun _=>⟨B,0,rfl,fun j hj=>by
  have hj9:j<9:=by omega
  rw[Nat.zero_add,hB.cell hj9]
  simp only[if_pos hj9]⟩
 obtain⟨ao',cap',w',hrun,hown,hg,hd⟩:=lN Tryz.elM w o.type base _ ao l.length cap hN.o (some ⟨B,0,none⟩) 1 1 _ hgr (fun j=>by
  by_cases q:j<9
  ·simp only[if_pos q];exact rE z j q
  ·simp only[if_neg q];rfl) (by omega) hb
 refine⟨_,w',dP ho hx e2 hrun,⟨ao',cap',by simp,?_,fun x e=>?_⟩,hg⟩
 ·exact hN.more hz hg (hown.congr (fun j hj=>by
   by_cases q:j<l.length*9
   ·rw[if_pos q,if_pos q]
   ·rw[if_neg q,if_neg q,if_pos (by omega)]))
 ·have e9:(Value.slice ao' (l.length+1) cap').ownBlock=some x:=by simpa using e
  rcases hd with hd|hd
  ·exact hne x (by rw[<-hd];exact e9)
  ·rw[hd]at e9
   have:=oI e9;omega
structure SdP(w0:World)(b base H lb:Nat)(l:List Nq)(nq:Nat)(ao:Option Addr)(cap:Nat)(eo:Option Addr)(ec:Nat)(l2:List Mq)(lc:Nat)(W:World):Prop where
 x:VHas W b 54 2 (lf [.slice ao l.length cap,.slice eo nq ec])
 n:GOwn W base 27 10 ao l.length cap (lf (mX l))
 nl:∀ z∈l,NdO W base z.n z.s
 m2:NetO W H (some ⟨lb,0,none⟩) lc l2
 bl:Below base w0 W
section
variable {w0:World} {b base H lb:Nat} {l:List Nq} {nq:Nat} {ao:Option Addr} {cap:Nat} {eo:Option Addr} {ec:Nat} {l2:List Mq} {lc:Nat} {W W':World}
theorem SdP.next(h:SdP w0 b base H lb l nq ao cap eo ec l2 lc W)(hB:base<=w0.heap.size)(hb:RB W W'):SdP w0 b base H lb l nq ao cap eo ec l2 lc W':=⟨vn h.x hb,GOwn.next h.n hb,fun z hz=>(h.nl z hz).next hb,h.m2.next hb,aN h.bl hB hb⟩
theorem SdP.net(h:SdP w0 b base H lb l nq ao cap eo ec l2 lc W)(hB:base<=w0.heap.size){row:Option Nat}(hg:W.grownBy W' row)(hx:∀ x,row=some x->base<=x/\aG W x 29/\x≠lb):SdP w0 b base H lb l nq ao cap eo ec l2 lc W':=
 have hT:∀ x,row=some x->aG W x 29:=fun x e=>(hx x e).2.1
 ⟨VHas.gr h.x hg hT (by decide),GOwn.gr h.n hg hT (by decide),fun z hz=>(h.nl z hz).gr hg hT (by decide) (by decide),⟨GOwn.grown h.m2.o hg (fun y e q=>by
  have e':lb=y:=oI e
  exact (hx y q).2.2 e'.symm),fun z hz=>(h.m2.e z hz).gr hg hT (by decide)⟩,kI h.bl hB hg (fun x e=>(hx x e).1)⟩
end
def FJ(w:World)(b base:Nat)(l:List Nq)(ao:Option Addr)(cap:Nat):Prop:=∃ q eo ec,ClB w b base l q ao cap eo ec/\ClP l q
theorem OwE.from'{w:World}{base base':Nat}{ao:Option Addr}{cap:Nat}{l:List En}(h:OwE w base ao cap l)(hb:base'<=base):OwE w base' ao cap l:=GOwn.from h hb
theorem ClP.more{l:List Nq}{q:List Mq}{z:Mq}(h:ClP l q)(hq:q.length<200)(hz:MsW (l.length:Int) z.m):ClP l (q++[z]):=⟨h.len,h.ok,by simp;omega,fun y hy=>by
 rcases List.mem_append.1 hy with r|r
 ·exact h.ms y r
 ·rw[List.mem_singleton.1 r];exact hz⟩
theorem qS(b base H:Nat)(l:List Nq)(q0:List Mq)(ao:Option Addr)(cap:Nat)(eo0:Option Addr)(ec0:Nat)(l2:List Mq)(lo:Option Addr)(lc:Nat)(w:World)(hbs:base<=w.heap.size)(hbb:base<=b)(hH:base<=H)(hC:ClB w b base l q0 ao cap eo0 ec0)(hP0:ClP l q0)(hN:NetO w H lo lc l2)(h2:l2.length<=1000)(hms:∀ z∈l2,MsW (l.length:Int) z.m)(hne0:∀ x,(Value.slice eo0 q0.length ec0).ownBlock=some x->∀ y,lo=some ⟨y,0,none⟩->x≠y):Calls Tryz.prog 99 #[.pointer (some ⟨b,0,none⟩),.slice lo l2.length lc] w fun e w'=>e=.returned (.tuple #[])/\FJ w' b base l ao cap/\Below base w w':=by
 rcases Nat.eq_zero_or_pos l2.length with hz2|hp2
 ·have c0:=VHas.cell hC.x (j:=0) (by omega)
  have c1:=VHas.cell hC.x (j:=1) (by omega);simp[lf]at c0 c1;rw[hz2];go_enter Tryz.func99,Tryz.ntmps99;go_wp2
  go_loopw [4] (fun x wr=>x=.int .i64 0/\wr=w) (fun _ _=>0)
  case atStart=>exact⟨rfl,rfl⟩
  case round=>
   obtain⟨rfl,rfl⟩:=hrel;go_wp2;simp[bodyPost,results,Tryz.results99,go_sem];exact⟨⟨_,_,_,hC,hP0⟩,Below.refl _ _⟩
 obtain⟨lb,elo,hlbH,_⟩:=GOwn.vhas hN.o hp2;subst elo;have hne1:∀ x,(Value.slice eo0 q0.length ec0).ownBlock=some x->x≠lb:=fun x e=>hne0 x e lb rfl
 clear hne0;go_enter Tryz.func99,Tryz.ntmps99;go_wp2
 go_loopw [4] (fun x wr=>∃ i:Nat,i<=l2.length/\x=.int .i64 (i:Int)/\∃ (q:List Mq) (eo:Option Addr) (ec:Nat),ClB wr b base l q ao cap eo ec/\ClP l q/\NetO wr H (some ⟨lb,0,none⟩) lc l2/\(∀ x,(Value.slice eo q.length ec).ownBlock=some x->x≠lb)/\Below base w wr) (fun x _=>l2.length-(intOf x).toNat)
 case atStart=>exact⟨0,Nat.zero_le _,rfl,q0,eo0,ec0,hC,hP0,hN,hne1,Below.refl _ _⟩
 case round=>
  clear hC hP0 hN hne1;obtain⟨i,hi,rfl,q,eo,ec,hC,hP,hN,hne,hbl⟩:=hrel;have c0:=VHas.cell hC.x (j:=0) (by omega);have c1:=VHas.cell hC.x (j:=1) (by omega);simp[lf]at c0 c1;have hq200:=hP.net
  by_cases hlt:i<l2.length
  rotate_left
  ·have hge:¬ ((i:Int)<(l2.length:Int)):=by omega
   go_wp2;simp[bodyPost,results,Tryz.results99,go_sem];exact⟨⟨_,_,_,hC,hP⟩,hbl⟩
  have hil:(i:Int)<(l2.length:Int):=by omega
  have hi0:(0:Int)<=(i:Int):=by omega
  by_cases hq:q.length<200
  rotate_left
  ·have hge:¬ ((q.length:Int)<200):=by omega
   go_wp2;simp[bodyPost,results,Tryz.results99,go_sem];exact⟨⟨_,_,_,hC,hP⟩,hbl⟩
  have hq':(q.length:Int)<200:=by omega
  obtain⟨z,hz⟩:∃ z,l2[i]?=some z:=⟨l2[i],by simp[hlt]⟩
  have hzm:z∈l2:=List.mem_of_getElem? hz
  go_wp2_with fail
  clear c0 c1;have hd:RB wr wr.drew:=(Below.refl _ _).drew;have hD:SdP w b base H lb l q.length ao cap eo ec l2 lc wr.drew:=SdP.next ⟨hC.x,hC.n,hC.nl,hN,hbl⟩ hbs hd;have hQD:=hC.m.next hd;clear hd hC hN hbl
  refine lU (by kernel_rfl) (by kernel_rfl) (by kernel_rfl) 10 [1,2,3,4,5,6,7,8,9] [0,11,12] (by kernel_rfl) (by kernel_rfl) (fun _ _=>True)
   (fun W5=>SdP w b base H lb l q.length ao cap eo ec l2 lc W5) (fun a9 b9 h hb=>h.next hbs hb)
   [isV (.pointer (some ⟨b,0,none⟩)),isV (.pointer (some ⟨b,0,none⟩)),isV (.pointer (some ⟨b,0,none⟩)),isV (.pointer (some ⟨b,1,none⟩)),isV (.slice eo q.length ec),isV (.slice (some ⟨lb,0,none⟩) l2.length lc),isV (.int .i64 (i:Int)),isV (.pointer (some ⟨lb,i*9,none⟩)),isV (eS z.m z.eo z.ec),MgB z,NtA base lb (q++[z]),isV (.pointer (some ⟨b,0,none⟩)),isV (.pointer (some ⟨b,1,none⟩))]
   ⟨iR,iR,iR,iR,iR,iR,iR,iR,iR,MgB.rb,NtA.rb,iR,iR,trivial⟩ rfl ?_ ?_ ?_ ?_ _ rfl rfl rfl
   (fun v9 W9=>∃ a c,ClB W9 b base l (q++[z]) ao cap a c/\NetO W9 H (some ⟨lb,0,none⟩) lc l2/\(∀ x,(Value.slice a (q++[z]).length c).ownBlock=some x->x≠lb)/\Below base w W9) ?_ ?_
  ·intro i hi v w1 w2 h hx
   simp only[List.mem_cons,List.not_mem_nil,or_false]at hi;rcases hi with rfl|rfl|rfl<;>exact h
  ·intro i hi o ho
   simp only[List.mem_cons,List.not_mem_nil,or_false]at hi;rcases hi with rfl|rfl|rfl|rfl|rfl|rfl|rfl|rfl|rfl<;>(obtain rfl:=oI ho)
   ·exact ow 0
   ·exact o1 1 20
   ·exact o1 2 21
   ·exact oc 3 22 fun _ hR=>(hD.x.next hR).cell (j:=1) (by omega)
   ·exact ow 1
   ·exact ow 4
   ·exact oq rfl fun ev w9 v hR E pr=>by
     have e1:=E.eq pr 5 24;have e2:=E.eq pr 6 25;simp[go_sem,hi0,hil,e1,e2]
   ·exact oq rfl fun ev w9 v hR E pr=>by
     have e1:=E.eq pr 7 26;exact qG rfl e1 (GOwn.next hD.m2.o hR) hz
   ·refine OpOk.val rfl fun ev w9 v hR E pr=>?_
    have e1:=E.eq pr 8 27;exact⟨.slice (some ⟨w9.heap.size,0,none⟩) 1 1,w9.alloc (.cells (bZ z.m z.eo z.ec).toArray 29),(by (simp[go_sem,e1])<;>rfl),ra _ _,⟨w9.heap.size,rfl,bJ w9 z.m z.eo z.ec⟩⟩
  ·intro i h1 h2 h3 o ho
   have hc3:i=0\/i=11\/i=12:=by
    simp at h1 h3;omega
   rcases hc3 with rfl|rfl|rfl<;>(obtain rfl:=oI ho)
   ·exact LateOk.get _ (fun _=>rfl) fun ev w9 v hR E pr=>by
     have e1:=E.was 0 _;simp[go_sem,E.con,e1]
   ·exact LateOk.get _ (fun _=>rfl) fun ev w9 v hR E pr=>by
     have e1:ev (.tmp 19)=.pointer (some ⟨b,0,none⟩):=E.kept pr 0 19;simp[go_sem,E.con,e1]
   ·exact LateOk.get _ (fun _=>rfl) fun ev w9 v hR E pr=>by
     have e1:ev (.tmp 30)=.pointer (some ⟨b,0,none⟩):=E.kept pr 11 30;simp[go_sem,E.con,e1]
  ·intro o ho
   obtain rfl:=oI ho;refine MidOk.val fun ev w9 v hR E pr=>?_
   have e1:=E.eq pr 4 23;have e2:MgB z (ev (.tmp 28)) w9:=E.get pr 9 28;have h9:=hD.next hbs hR;have hO9:=hQD.next hR;have hlb9:lb<w9.heap.size:=(GOwn.at h9.m2.o rfl).2;refine iY (CF (lb:=lb) rfl e1 hO9 e2 ((h9.m2.e z hzm).from' hH) (by omega) (Nat.le_trans hbs h9.bl.size) hlb9 hne) ?_;rintro u w8 ⟨hu,hg⟩;exact⟨trivial,h9.net hbs hg (fun x e=>⟨(GOwn.at hO9.o e).1,GOwn.typed hO9.o e,hne x e⟩),hu⟩
  ·rintro ev w9 v hP9 E hk
   have k1:=hk 12 (by simp);have k2:=hk 10 (by simp);have E1:=E.at_ 12 31 rfl (by kernel_rfl) (nb (by kernel_rfl));have E2:=E.at_ 10 29 rfl (by kernel_rfl) (nb (by kernel_rfl));obtain⟨a,c,e1,hN9,hn9⟩:NtA base lb (q++[z]) (v 10) w9:=k2;have e2:v 12=.pointer (some ⟨b,1,none⟩):=k1;rw[e2]at E1;rw[e1]at E2;have g9:=aC w9 b 1 (.slice a (q++[z]).length c);have hT:∀ x,some b=some x->aG w9 x 54:=fun x e=>by cases e;exact VHas.typed hP9.x
   exact⟨_,cI rfl E1 E2 hP9.x (by omega) (by kernel_rfl) rfl (dT rfl),fun _ _=>⟨a,c,⟨(VHas.set hP9.x 1 _).congr (fun j hj=>by
    have:j=0\/j=1:=by omega
    rcases this with rfl|rfl<;>simp[lf]),GOwn.gr hP9.n g9 hT (by decide),hN9.gr g9 hT (by decide) (by decide),fun y hy=>(hP9.nl y hy).gr g9 hT (by decide) (by decide)⟩,hP9.m2.gr g9 hT (by decide) (by decide),hn9,kI hP9.bl hbs g9 (fun x e=>by cases e;exact hbb)⟩⟩
  ·intro v8 W8 hF8
   simp only[bF,Nat.zero_add,Nat.reduceAdd,Act.put,sY,sZ,ss];obtain⟨a,c,hC9,hN9,hn9,hbl9⟩:=hF8;have hP9:=hP.more hq (hms z hzm);have hw1:IntKind.i64.wrap ((i:Int)+1)=(i:Int)+1:=wi
   clear hQD hD hP hne;generalize q++[z]=q9 at hC9 hn9 hP9;go_wp2
   go_roundw
   case rel=>exact⟨i+1,by omega,by go_num,q9,a,c,hC9,hP9,hN9,hn9,hbl9⟩
   case measure=>simp[intOf];omega
theorem zN:∀ (l:List Mq) (i:Nat),jV (l.take i)=(jV l).take (i*9)
 | [],i=>by simp[jV]
 | q :: r,0=>by simp[jV]
 | q :: r,i+1=>by
  have e:(i+1)*9=i*9+1+1+1+1+1+1+1+1+1:=by omega
  simp only[List.take_succ_cons,jV,zN r i,e,List.cons_append,List.nil_append]
theorem mO:∀ (l:List Mq) (i:Nat),jV (l.drop i)=(jV l).drop (i*9)
 | [],i=>by simp[jV]
 | q :: r,0=>by simp
 | q :: r,i+1=>by
  have e:(i+1)*9=i*9+1+1+1+1+1+1+1+1+1:=by omega
  simp only[List.drop_succ_cons,jV,mO r i,e,List.cons_append,List.nil_append]
def SlM(l:List Mq)(v:Value)(w:World):Prop:=∃ ao c,v=.slice ao l.length c/\l.length<=c/\LRow w 29 ao (jV l)
theorem SlM.rb{l:List Mq}(v:Value)(w w':World)(h:SlM l v w)(hb:RB w w'):SlM l v w':=by
 obtain⟨ao,c,e,hc,hr⟩:=h;exact⟨ao,c,e,hc,hr.next hb⟩
theorem U7{o:Oper}{ev:Operand->Value}{x y:Operand}{ao:Option Addr}{l:List Mq}{c i:Nat}{w:World}(ho:o.op=.slice 32 x none (some y) none)(hx:ev x=.slice ao l.length c)(hy:ev y=.int .i64 (i:Int))(hi:i<=l.length)(hn:l.length<=c)(hr:LRow w 29 ao (jV l)):∃ u w',(execOp ev o).run Tryz.prog w=.ok (.value u) w'/\RB w w'/\SlM (l.take i) u w':=by
 have h1:(i:Int)<=(c:Int):=by omega
 have h2:(0:Int)<=(i:Int):=by omega
 have h3:(i:Int).toNat=i:=by omega
 have hl:(l.take i).length=i:=by simp;omega
 refine⟨.slice ao (l.take i).length c,w,?_,rr _,ao,c,rfl,by omega,by rw[zN];exact LRow.take hr _⟩;rw[hl];unfold execOp;cases ao<;>simp[ho,hx,hy,go_sem,h1,h2,h3]
theorem zO{o:Oper}{ev:Operand->Value}{x y:Operand}{ao:Option Addr}{l:List Mq}{c i:Nat}{w:World}(ho:o.op=.slice 32 x (some y) none none)(hx:ev x=.slice ao l.length c)(hy:ev y=.int .i64 (i:Int))(hi:i<=l.length)(hn:l.length<=c)(hr:LRow w 29 ao (jV l)):∃ u w',(execOp ev o).run Tryz.prog w=.ok (.value u) w'/\RB w w'/\SlM (l.drop i) u w':=by
 have h1:(i:Int)<=(c:Int):=by omega
 have h2:(0:Int)<=(i:Int):=by omega
 have h3:(i:Int).toNat=i:=by omega
 have hl:(l.drop i).length=l.length-i:=by simp
 cases ao with
 | none=>
  refine⟨.slice none (l.drop i).length (c-i),w,?_,rr _,none,c-i,rfl,by omega,fun hc=>?_⟩
  ·rw[hl]
   unfold execOp;simp[ho,hx,hy,go_sem,h1,h2,h3,hi]
  ·obtain⟨b,o',e,_⟩:=hr (fun q=>hc (by rw[mO,q];simp))
   cases e
 | some a=>
  refine⟨.slice (if c=i then some a else some (a.add (i*9))) (l.drop i).length (c-i),w,?_,rr _,_,c-i,rfl,by omega,fun hc=>?_⟩
  ·rw[hl]
   unfold execOp;simp[ho,hx,hy,go_sem,h1,h2,h3,hi]
  ·have hlt:i<l.length:=by
    rcases Nat.lt_or_ge i l.length with q|q
    ·exact q
    ·exfalso
     apply hc;rw[List.drop_eq_nil_of_le q];rfl
   obtain⟨b,o',e,_⟩:=hr (fun q=>hc (by rw[mO,q];simp));cases e;rw[if_neg (by omega),Addr.add_mid,mO];exact LRow.drop hr (i*9) (by rw[<-mO];exact hc)
def NtH(H base:Nat)(l:List Mq)(v:Value)(w:World):Prop:=∃ a c,v=.slice a l.length c/\GOwn w H 29 9 a l.length c (lf (jV l))/\∀ z∈l,OwE w base z.eo z.ec z.m.ents
theorem NtH.rb{H base:Nat}{l:List Mq}(v:Value)(w w':World)(h:NtH H base l v w)(hb:RB w w'):NtH H base l v w':=by
 obtain⟨a,c,e,h,k⟩:=h;exact⟨a,c,e,GOwn.next h hb,fun z hz=>(k z hz).next hb⟩
theorem K7(l:List Mq)(j:Nat)(h:j<l.length*9):(lf (jV l) j).oneCell'=true:=by
 obtain⟨k,i,hk,hi,e⟩:∃ k i,k<l.length/\i<9/\j=k*9+i:=⟨j / 9,j%9,by omega,by omega,by omega⟩
 have h1:l[k]?=some l[k]:=by simp[hk]
 have h2:=I1 h1 hi;have h3:=rE l[k] i hi;subst e;unfold lf at h3 ⊢;rw[List.getD_eq_getElem?_getD]at h3 ⊢;rw[h2];exact h3
theorem K8{o:Oper}{ev:Operand->Value}{x y:Operand}{H base:Nat}{l:List Mq}{w:World}(ho:o.op=.call { callee:=.builtin .append,args:=#[x,y],argTypes:=#[32,32] })(hx:LE H 29 (ev x) w)(hy:SlM l (ev y) w)(hz:∀ z∈l,OwE w base z.eo z.ec z.m.ents)(hl:l.length<=1048576)(hb:H<=w.heap.size):
  ∃ u w',(execOp ev o).run Tryz.prog w=.ok (.value u) w'/\RB w w'/\NtH H base l u w':=by
 obtain⟨g,e1,_,_,h0⟩:=hx;obtain⟨ao,c,e2,_,hr⟩:=hy
 obtain⟨ao',cap',w',hrun,hown,hrb⟩:=zH Tryz.elM w o.type H g (fun j=>if j<l.length*9 then lf (jV l) j else .bool false) (h0 9 _) ao l.length c (fun hm=>by
  obtain⟨b,o',e',hc⟩:=hr.g (dX l) hm
  exact⟨b,o',e',fun j hj=>by
   rw[hc j hj]
   simp only[if_pos hj]⟩) (fun j=>by
  by_cases q:j<l.length*9
  ·simp only[if_pos q];exact K7 l j q
  ·simp only[if_neg q];rfl) hl hb
 exact⟨_,w',dP ho e1 e2 hrun,hrb,ao',cap',rfl,GOwn.congr hown (fun j hj=>if_pos hj),fun z h=>(hz z h).next hrb⟩
theorem BM{o:Oper}{ev:Operand->Value}{x y:Operand}{H base:Nat}{l k:List Mq}{w:World}(ho:o.op=.call { callee:=.builtin .append,args:=#[x,y],argTypes:=#[32,32] })(hx:NtH H base l (ev x) w)(hy:SlM k (ev y) w)(hz:∀ z∈k,OwE w base z.eo z.ec z.m.ents)(hl:l.length+k.length<=1048576)(hb:H<=w.heap.size):
  ∃ u w',(execOp ev o).run Tryz.prog w=.ok (.value u) w'/\NtH H base (l++k) u w'/\∃ row,w.grownBy w' row/\∀ x,row=some x->H<=x:=by
 obtain⟨a,c,e1,hO,hE⟩:=hx;obtain⟨ao,c2,e2,_,hr⟩:=hy
 obtain⟨ao',cap',w',hrun,hown,hg,_⟩:=lN Tryz.elM w o.type H _ a l.length c hO ao k.length c2 (fun j=>if j<k.length*9 then lf (jV k) j else .bool false) (fun hm=>by
  obtain⟨b,o',e',hc⟩:=hr.g (dX k) hm
  exact⟨b,o',e',fun j hj=>by
   rw[hc j hj]
   simp only[if_pos hj]⟩) (fun j=>by
  by_cases q:j<k.length*9
  ·simp only[if_pos q];exact K7 k j q
  ·simp only[if_neg q];rfl) (by omega) hb
 have hT:∀ x,(Value.slice a l.length c).ownBlock=some x->aG w x 29:=fun x e=>GOwn.typed hO e
 refine⟨_,w',dP ho e1 e2 hrun,⟨ao',cap',by rw[List.length_append],?_,fun z hz2=>?_⟩,_,hg,fun x e=>(GOwn.at hO e).1⟩
 ·rw[List.length_append]
  refine GOwn.congr hown (fun j hj=>?_);rw[wY,mT,dX]
  by_cases q:j<l.length*9
  ·rw[if_pos q,if_pos q]
  ·rw[if_neg q,if_neg q,if_pos (by omega)]
 ·rcases List.mem_append.1 hz2 with r|r
  ·exact (hE z r).gr hg hT (by decide)
  ·exact (hz z r).gr hg hT (by decide)
theorem zP{o:Oper}{ev:Operand->Value}{x y:Operand}{base:Nat}{l k:List Mq}{w W0:World}(ho:o.op=.call { callee:=.builtin .append,args:=#[x,y],argTypes:=#[32,32] })(hx:NtH W0.heap.size base l (ev x) w)(hy:SlM k (ev y) w)(hz:∀ z∈k,OwE w base z.eo z.ec z.m.ents)(hl:l.length+k.length<=1048576)(hR:RB W0 w):∃ u w',(execOp ev o).run Tryz.prog w=.ok (.value u) w'/\True/\RB W0 w'/\NtH W0.heap.size base (l++k) u w':=by
 obtain⟨u,w8,hr,hu,row,hg,hx⟩:=BM ho hx hy hz hl hR.size;exact⟨u,w8,hr,trivial,jO hR hg hx,hu⟩
theorem ClP.less{l:List Nq}{q:List Mq}(h:ClP l q)(i:Nat):ClP l (q.take i++q.drop (i+1)):=⟨h.len,h.ok,by have:=h.net;simp;omega,fun z hz=>by
 rcases List.mem_append.1 hz with r|r
 ·exact h.ms z (List.mem_of_mem_take r)
 ·exact h.ms z (List.mem_of_mem_drop r)⟩
theorem CM{u v w:World}(h:RB u v)(k:Ch u.heap.size v w):RB u w:=
 ⟨k.os.trans h.os,k.tape.trans h.tape,k.output.trans h.output,Nat.le_trans h.size k.size,fun j hj=>(k.block j (Nat.lt_of_lt_of_le hj h.size) (.inl hj)).trans (h.block j hj)⟩
def CpV(H:Nat)(n:Nd)(v:Value)(w:World):Prop:=∃ s,v=aX n s/\NdO w H n s
theorem CpV.rb{H:Nat}{n:Nd}(v:Value)(w w':World)(h:CpV H n v w)(hb:RB w w'):CpV H n v w':=by
 obtain⟨s,e,h⟩:=h;exact⟨s,e,h.next hb⟩
theorem CpV.gr{H x:Nat}{n:Nd}{v:Value}{w w':World}(h:CpV H n v w)(hg:w.grownBy w' (some x))(hx:aG w x 27):CpV H n v w':=by
 obtain⟨s,e,h⟩:=h;exact⟨s,e,h.gr hg (fun y e=>by cases e;exact hx) (by decide) (by decide)⟩
def RcV(H:Nat)(n:Nd)(l:List Ms)(v:Value)(w:World):Prop:=∃ s u,v=.tuple #[aX n s,u]/\NdO w H n s/\NetV H l u w
theorem RcV.rb{H:Nat}{n:Nd}{l:List Ms}(v:Value)(w w':World)(h:RcV H n l v w)(hb:RB w w'):RcV H n l v w':=by
 obtain⟨s,u,e,h,k⟩:=h;exact⟨s,u,e,h.next hb,NetV.rb _ _ _ k hb⟩
theorem RcV.gr{H x:Nat}{n:Nd}{l:List Ms}{v:Value}{w w':World}(h:RcV H n l v w)(hg:w.grownBy w' (some x))(hx:aG w x 27):RcV H n l v w':=by
 obtain⟨s,u,e,h,k⟩:=h;exact⟨s,u,e,h.gr hg (fun y e=>by cases e;exact hx) (by decide) (by decide),NetV.gr k hg hx⟩
def BxN(H:Nat)(v:Value)(w:World):Prop:=∃ b,v=.pointer (some ⟨b,0,none⟩)/\H<=b/\NdB w b aU aP
theorem BxN.rb{H:Nat}(v:Value)(w w':World)(h:BxN H v w)(hb:RB w w'):BxN H v w':=by
 obtain⟨b,e,h1,h⟩:=h;exact⟨b,e,h1,vn h hb⟩
def BxS(H:Nat)(n:Nd)(v:Value)(w:World):Prop:=∃ b s,v=.pointer (some ⟨b,0,none⟩)/\H<=b/\NdB w b n s/\NdO w H n s
theorem BxS.rb{H:Nat}{n:Nd}(v:Value)(w w':World)(h:BxS H n v w)(hb:RB w w'):BxS H n v w':=by
 obtain⟨b,s,e,h1,h,k⟩:=h;exact⟨b,s,e,h1,vn h hb,k.next hb⟩
def S7(H:Nat)(u v:World):Prop:=∃ b,u.grownBy v (some b)/\aG u b 27/\H<=b
def GA(w:World)(b base k:Nat)(ao:Option Addr)(cap:Nat):Prop:=∃ l,FJ w b base l ao cap/\l.length=k
theorem kQ{B:Nat}{u v w:World}(h:Below B u v)(k:Below B v w)(hB:B<=u.heap.size):Below B u w:=⟨k.os.trans h.os,k.tape.trans h.tape,k.output.trans h.output,Nat.le_trans h.size k.size,fun j hj=>(k.block j hj).trans (h.block j hj)⟩
theorem CW{n:Nd}(h:Bk n):(wJ n).length<=5:=by
 have e:=(iG n).2.1;have hp:=h.p;have h1:=gK (eJ n).id (fun k=>eK (eJ n) (iZ (eJ n) k) k) (eJ n).peers.toNat;have h2:(eJ n).peers=n.peers:=e;unfold wJ dU;omega
theorem S8{n:Nd}(h:OkN n)(m:Ms):(eT n m).length<=1000:=by
 unfold eT
 split
 ·next hF=>
  simp only[gV,dS,Bool.and_eq_true,decide_eq_true_eq]at hF;obtain⟨_,_,_,_,_,_,ht2,_,_⟩:=hF;have h1:=(h.rc1 m ht2).1;unfold iQ
  split
  ·simp
  ·split
   ·unfold wZ
    split
    ·split
     ·have b2:Bk (mL (rc1 n m) m.frm):=⟨h1.b.p,h1.b.i,h1.b.t,h1.b.v,h1.b.l,h1.b.a,h1.b.c⟩
      have:=CW b2;omega
     ·simp
    ·simp
   ·split
    ·unfold mB
     split
     ·simp
     ·split
      ·simp
      ·split<;>simp
    ·simp
 ·simp
theorem kB{x:Int}{k:Nat}(h:dD x 0 ((k:Int)-1)=true):∃ t:Nat,x=(t:Int)/\t<k:=by
 rw[oY]at h;have:=of_decide_eq_true h;exact⟨x.toNat,by omega,by omega⟩
theorem rU(b base:Nat)(l:List Nq)(q:List Mq)(ao:Option Addr)(cap:Nat)(eo:Option Addr)(ec:Nat)(i:Nat)(w:World)(hbs:base<=w.heap.size)(hbb:base<=b)(hC:ClB w b base l q ao cap eo ec)(hP:ClP l q)(hi:i<q.length):Calls Tryz.prog 97 #[.pointer (some ⟨b,0,none⟩),.int .i64 (i:Int)] w fun e w'=>e=.returned (.tuple #[])/\GA w' b base l.length ao cap/\Below base w w':=by
 obtain⟨ge,ege,hgeb,hgv⟩:=GOwn.vhas hC.m.o (by omega);subst ege;obtain⟨g,eg,hgb,hnv⟩:=GOwn.vhas hC.n (by have:=hP.len;omega);subst eg;have hq200:=hP.net;have hl5:=hP.len;obtain⟨z,hz⟩:∃ z,q[i]?=some z:=⟨q[i],by simp[hi]⟩
 have hzm:z∈q:=List.mem_of_getElem? hz;have hzw:=hP.ms z hzm;have hil:(i:Int)<(q.length:Int):=by omega
 have hi0:(0:Int)<=(i:Int):=by omega
 have hrow:=GOwn.lrow hC.m.o (dX q);have c0:=VHas.cell hC.x (j:=0) (by omega);have c1:=VHas.cell hC.x (j:=1) (by omega);simp[lf]at c0 c1;have g0:=bI hrow hz 0 (by omega);have g1:=bI hrow hz 1 (by omega);have g2:=bI hrow hz 2 (by omega);have g3:=bI hrow hz 3 (by omega);have g4:=bI hrow hz 4 (by omega);have g5:=bI hrow hz 5 (by omega);have g6:=bI hrow hz 6 (by omega);have g7:=bI hrow hz 7 (by omega);have g8:=bI hrow hz 8 (by omega);simp[lf]at g0 g1 g2 g3 g4 g5 g6 g7 g8;clear hrow hgv hnv;have hal:=ra w (.cells (bZ gW none 0).toArray 29);have vM:=bJ w gW none 0;have hC1:=hC.next hal;have hzE1:=(hC.m.e z hzm).next hal;go_enter Tryz.func97,Tryz.ntmps97
 go_wp2_with (first|((with_reducible refine wB 29 (.tmp 4) (.tmp 13) w.heap.size (bZ z.m z.eo z.ec) vM ?_);intro W1 vM1 gM)|fail)
 clear g0 g1 g2 g3 g4 g5 g6 g7 g8 c0 c1;have hTm:∀ x,some w.heap.size=some x->aG (w.alloc (.cells (bZ gW none 0).toArray 29)) x 29:=fun x e=>by cases e;exact VHas.typed vM
 have hR1:RB w W1:=aV hal gM nl;replace hC1:=hC.next hR1;replace hzE1:=(hC.m.e z hzm).next hR1;clear vM gM hTm hal hC;obtain⟨bm,hbm⟩:∃ bm,bm=w.heap.size:=⟨_,rfl⟩
 rw[<-hbm]at vM1 ⊢;clear hbm;have hd:RB W1 W1.drew:=(Below.refl _ _).drew;have hD:=hC1.next hd;have hM:MsB W1.drew bm z.m z.eo z.ec:=vn vM1 hd;have hzE:=hzE1.next hd;have hbl:Below base w W1.drew:=aN (aN (Below.refl _ _) hbs hR1) hbs hd;have hbd:base<=W1.drew.heap.size:=Nat.le_trans hbs hbl.size;have hqc:q.length<=ec:=GOwn.cap hC1.m.o;clear hC1 vM1 hzE1 hR1 hd;have hw28:IntKind.i64.wrap ((i:Int)+1)=((i:Int)+1):=wi
 refine lU (by kernel_rfl) (by kernel_rfl) (by kernel_rfl) 16 [1,2,3,4,5,6,7,8,9,10,11,12,13,14,15] [0,17,18] (by kernel_rfl) (by kernel_rfl) (fun _ _=>True)
  (fun W5=>RB W1.drew W5) (fun a9 b9 h hb=>rt _ _ _ h hb)
  [isV (.pointer (some ⟨b,0,none⟩)),LE W1.drew.heap.size 29,isV (.pointer (some ⟨b,0,none⟩)),isV (.pointer (some ⟨b,0,none⟩)),isV (.pointer (some ⟨b,1,none⟩)),isV (.slice (some ⟨ge,0,none⟩) q.length ec),isV (.int .i64 (i:Int)),SlM (q.take i),NtH W1.drew.heap.size base (q.take i),isV (.pointer (some ⟨b,0,none⟩)),isV (.pointer (some ⟨b,0,none⟩)),isV (.pointer (some ⟨b,1,none⟩)),isV (.slice (some ⟨ge,0,none⟩) q.length ec),isV (.int .i64 (i:Int)),isV (.int .i64 ((i:Int)+1)),SlM (q.drop (i+1)),NtH W1.drew.heap.size base (q.take i++q.drop (i+1)),isV (.pointer (some ⟨b,0,none⟩)),isV (.pointer (some ⟨b,1,none⟩))]
  ⟨iR,LE.rb,iR,iR,iR,iR,iR,SlM.rb,NtH.rb,iR,iR,iR,iR,iR,iR,SlM.rb,NtH.rb,iR,iR,trivial⟩ rfl ?_ ?_ ?_ ?_ _ rfl rfl rfl
  (fun v9 W9=>∃ a c,ClB W9 b base l (q.take i++q.drop (i+1)) (some ⟨g,0,none⟩) cap a c/\(MsB W9 bm z.m z.eo z.ec/\OwE W9 base z.eo z.ec z.m.ents)/\Below base w W9) ?_ ?_
 ·intro i hi v w1 w2 h hx
  simp only[List.mem_cons,List.not_mem_nil,or_false]at hi;rcases hi with rfl|rfl|rfl<;>exact h
 ·intro i hi o ho
  simp only[List.mem_cons,List.not_mem_nil,or_false]at hi;rcases hi with rfl|rfl|rfl|rfl|rfl|rfl|rfl|rfl|rfl|rfl|rfl|rfl|rfl|rfl|rfl<;>(obtain rfl:=oI ho)
  ·refine OpOk.val rfl fun ev w9 v hR E pr=>?_
   exact⟨.slice (some ⟨w9.heap.size,0,none⟩) 0 0,w9.alloc (.cells #[] 29),(by (simp[go_sem])<;>rfl),ra _ _,LE.new w9 _ 29 hR.size⟩
  ·exact ow 0
  ·exact o1 2 16
  ·exact o1 3 17
  ·exact oc 4 18 fun _ hR=>(hD.x.next hR).cell (j:=1) (by omega)
  ·exact ow 1
  ·refine OpOk.val rfl fun ev w9 v hR E pr=>?_
   have e1:=E.eq pr 5 19;have e2:=E.eq pr 6 20;exact U7 rfl e1 e2 (by omega) hqc ((GOwn.lrow hD.m.o (dX q)).next hR)
  ·refine OpOk.val rfl fun ev w9 v hR E pr=>?_
   have e1:LE W1.drew.heap.size 29 (ev (.tmp 15)) w9:=E.get pr 1 15;have e2:SlM (q.take i) (ev (.tmp 21)) w9:=E.get pr 7 21;exact K8 rfl e1 e2 (fun z h=>(hD.m.e z (List.mem_of_mem_take h)).next hR) (by simp;omega) hR.size
  ·exact ow 0
  ·exact o1 9 23
  ·exact o1 10 24
  ·exact oc 11 25 fun _ hR=>(hD.x.next hR).cell (j:=1) (by omega)
  ·exact ow 1
  ·exact mQ 13 27 hw28
  ·refine OpOk.val rfl fun ev w9 v hR E pr=>?_
   have e1:=E.eq pr 12 26;have e2:=E.eq pr 14 28;exact zO rfl e1 e2 (by omega) hqc ((GOwn.lrow hD.m.o (dX q)).next hR)
 ·intro i h1 h2 h3 o ho
  have hc3:i=0\/i=17\/i=18:=by
   simp at h1 h3;omega
  rcases hc3 with rfl|rfl|rfl<;>(obtain rfl:=oI ho)
  ·exact LateOk.get _ (fun _=>rfl) fun ev w9 v hR E pr=>by
    have e1:=E.was 0 _;simp[go_sem,E.con,e1]
  ·exact LateOk.get _ (fun _=>rfl) fun ev w9 v hR E pr=>by
    have e1:ev (.tmp 14)=.pointer (some ⟨b,0,none⟩):=E.kept pr 0 14;simp[go_sem,E.con,e1]
  ·exact LateOk.get _ (fun _=>rfl) fun ev w9 v hR E pr=>by
    have e1:ev (.tmp 31)=.pointer (some ⟨b,0,none⟩):=E.kept pr 17 31;simp[go_sem,E.con,e1]
 ·intro o ho
  obtain rfl:=oI ho;refine MidOk.val fun ev w9 v hR E pr=>?_
  have e1:NtH W1.drew.heap.size base (q.take i) (ev (.tmp 22)) w9:=E.get pr 8 22;have e2:SlM (q.drop (i+1)) (ev (.tmp 29)) w9:=E.get pr 15 29;exact zP rfl e1 e2 (fun z h=>(hD.m.e z (List.mem_of_mem_drop h)).next hR) (by simp;omega) hR
 ·rintro ev w9 v hP9 E hk
  have k1:=hk 18 (by simp);have k2:=hk 16 (by simp);have E1:=E.at_ 18 32 rfl (by kernel_rfl) (nb (by kernel_rfl));have E2:=E.at_ 16 30 rfl (by kernel_rfl) (nb (by kernel_rfl));obtain⟨a,c,e1,hN9,hE9⟩:NtH W1.drew.heap.size base (q.take i++q.drop (i+1)) (v 16) w9:=k2;have e2:v 18=.pointer (some ⟨b,1,none⟩):=k1;rw[e2]at E1;rw[e1]at E2;have h9:=hD.next hP9;have g9:=aC w9 b 1 (.slice a (q.take i++q.drop (i+1)).length c);have hT:∀ x,some b=some x->aG w9 x 54:=fun x e=>by cases e;exact VHas.typed h9.x
  exact⟨_,cI rfl E1 E2 h9.x (by omega) (by kernel_rfl) rfl (dT rfl),fun _ _=>⟨a,c,⟨(VHas.set h9.x 1 _).congr (fun j hj=>by
   have:j=0\/j=1:=by omega
   rcases this with rfl|rfl<;>simp[lf]),GOwn.gr h9.n g9 hT (by decide),⟨GOwn.from (GOwn.gr hN9 g9 hT (by decide)) hbd,fun y hy=>(hE9 y hy).gr g9 hT (by decide)⟩,fun y hy=>(h9.nl y hy).gr g9 hT (by decide) (by decide)⟩,⟨VHas.gr (vn hM hP9) g9 hT (by decide),(hzE.next hP9).gr g9 hT (by decide)⟩,kI (aN hbl hbs hP9) hbs g9 (fun x e=>by cases e;exact hbb)⟩⟩
 ·intro v8 W8 hF8
  simp only[bF,Nat.zero_add,Nat.reduceAdd,Act.put,sY,sZ,ss];obtain⟨a9,c9,hC2,⟨hM2,hzE2⟩,hbl2⟩:=hF8;have hP2:=hP.less i;clear hD hM hzE hbl hbd hqc hP hil hi0 hz hzm;generalize (q.take i++q.drop (i+1))=q9 at hC2 hP2
  go_wp2_with fail
  have hd:RB W8 W8.drew:=(Below.refl _ _).drew;have hD:=hC2.next hd;have hM:MsB W8.drew bm z.m z.eo z.ec:=vn hM2 hd;have hzE:=hzE2.next hd;have hbl:Below base w W8.drew:=aN hbl2 hbs hd;clear hC2 hM2 hzE2 hbl2 hd;have hw40:IntKind.i64.wrap ((l.length:Int)-1)=((l.length:Int)-1):=wi
  obtain⟨b41,qb41⟩:∃ b:Bool,b=(dD (z.m.to) (0) (((l.length:Int)-1))):=⟨_,rfl⟩
  obtain⟨b42,qb42⟩:∃ b:Bool,b=(!b41):=⟨_,rfl⟩
  refine bQ (by kernel_rfl) (by kernel_rfl) RB rr rt
   [isV (.pointer (some ⟨bm,3,none⟩)),isV (.int .i64 z.m.to),isV (.pointer (some ⟨b,0,none⟩)),isV (.pointer (some ⟨b,0,none⟩)),isV (.pointer (some ⟨b,0,none⟩)),isV (.slice (some ⟨g,0,none⟩) l.length cap),isV (.int .i64 (l.length:Int)),isV (.int .i64 ((l.length:Int)-1)),isV (.bool b41),isV (.bool b42)]
   ⟨iR,iR,iR,iR,iR,iR,iR,iR,iR,iR,trivial⟩ rfl ?_ ?_
  ·refine⟨?_,?_,?_,?_,?_,?_,?_,?_,?_,?_,trivial⟩
   ·exact ow 4
   ·exact oc 0 33 fun _ hR=>(hM.next hR).cell (j:=3) (by omega)
   ·exact ow 0
   ·exact o1 2 35
   ·exact o1 3 36
   ·exact oc 4 37 fun _ hR=>(hD.x.next hR).cell (j:=0) (by omega)
   ·exact o1 5 38
   ·exact mQ 6 39 hw40
   ·exact OpOk.ret _ (fun _=>rfl) fun ev w' v hR E pr=>by
     have e1:=E.eq pr 1 34;have e2:=E.eq pr 7 40;refine⟨40,#[.int .i64 z.m.to,.int .i64 0,.int .i64 ((l.length:Int)-1)],by simp[go_sem,gv,e1,e2,E.con,E.fn],?_⟩;rw[qb41];exact bS (z.m.to) (0) (((l.length:Int)-1)) _
   ·exact mQ 8 41 qb42
  ·intro v w' hR hp
   obtain⟨_,_,_,_,_,_,_,_,_,p9,_⟩:=hp;replace p9:v 9=.bool b42:=p9;simp only[bF,Nat.zero_add,Nat.reduceAdd,p9,Act.put,sY,sZ,ss];have hD2:=hD.next hR;have hM2:MsB w' bm z.m z.eo z.ec:=vn hM hR;have hzE2:=hzE.next hR;have hbl2:=aN hbl hbs hR;clear hD hM hzE hbl hR;rcases bq (dD z.m.to 0 ((l.length:Int)-1)) with hto|hto
   rotate_left
   ·rw[qb42,qb41,hto]
    go_wp2;simp[bodyPost,results,Tryz.results97,go_sem];exact⟨⟨l,⟨_,_,_,hD2,hP2⟩,rfl⟩,hbl2⟩
   rw[qb42,qb41,hto];obtain⟨t,hto1,htL⟩:=kB hto;clear qb42 qb41 hto;obtain⟨y,hy⟩:=lW htL;obtain⟨hyk,hyi,hyp,hyt⟩:=hP2.ok t y hy;have ht0:(0:Int)<=(t:Int):=by omega
   have htl:(t:Int)<(l.length:Int):=by omega
   have hyO0:=hD2.nl y (List.mem_of_getElem? hy);have hyz:NdZ y.n y.s:=hyk.zz hyt hyO0.K;replace hto1:Hid (z.m.to=(t:Int)):=hto1
   go_wp2_with fail
   replace hto1:=hto1.out;have hd:RB w' w'.drew:=(Below.refl _ _).drew;have hD:=hD2.next hd;have hM:MsB w'.drew bm z.m z.eo z.ec:=vn hM2 hd;have hyO:=hyO0.next hd;have hzM:MsM w'.drew z.m z.eo z.ec:=⟨(hzE2.next hd).row,GOwn.cap hzE2⟩
   have hbl:Below base w w'.drew:=aN hbl2 hbs hd;clear hD2 hM2 hyO0 hbl2 hd
   refine eG (by kernel_rfl) (by kernel_rfl) (by kernel_rfl) (fun W5=>RB w'.drew W5) (rr _) (fun i=>if i=10 then Ch w'.drew.heap.size else if i=15 then S7 w'.drew.heap.size else RB) [10,15]
    [isV (.pointer (some ⟨b,0,none⟩)),isV (.pointer (some ⟨b,0,none⟩)),isV (.pointer (some ⟨b,0,none⟩)),isV (.slice (some ⟨g,0,none⟩) l.length cap),isV (.pointer (some ⟨bm,3,none⟩)),isV (.int .i64 z.m.to),isV (.pointer (some ⟨g,t*10,none⟩)),isV (aX y.n y.s),CpV w'.drew.heap.size y.n,isV (eS z.m z.eo z.ec),RcV w'.drew.heap.size (cK y.n z.m) (eT y.n z.m),RcV w'.drew.heap.size (cK y.n z.m) (eT y.n z.m),CpV w'.drew.heap.size (cK y.n z.m),NetV w'.drew.heap.size (eT y.n z.m),BxN w'.drew.heap.size,BxS w'.drew.heap.size (cK y.n z.m),NetV w'.drew.heap.size (eT y.n z.m)]
    [(8,10),(14,15)] [(15,14)] [(11,10),(12,10),(13,10),(15,10),(16,10)] (by kernel_rfl) (by kernel_rfl) ⟨iR,iR,iR,iR,iR,iR,iR,iR,CpV.rb,iR,RcV.rb,RcV.rb,CpV.rb,NetV.rb,BxN.rb,BxS.rb,NetV.rb,trivial⟩ (fun i h=>by simp at h;simp[h]) ?_ ?_ ?_
   ·intro i hi j hj hne hx hd v w1 w2 hp hG hR
    simp only[List.mem_cons,List.not_mem_nil,or_false]at hi;rcases hi with rfl|rfl
    ·have hj2:j<17:=hj
     have hj3:j=0\/j=1\/j=2\/j=3\/j=4\/j=5\/j=6\/j=7\/j=8\/j=9\/j=10\/j=11\/j=12\/j=13\/j=14\/j=15\/j=16:=by omega
     rcases hj3 with rfl|rfl|rfl|rfl|rfl|rfl|rfl|rfl|rfl|rfl|rfl|rfl|rfl|rfl|rfl|rfl|rfl
     ·exact hp
     ·exact hp
     ·exact hp
     ·exact hp
     ·exact hp
     ·exact hp
     ·exact hp
     ·exact hp
     ·exact absurd rfl hx
     ·exact hp
     ·exact absurd rfl hne
     ·exact absurd (by simp) hd
     ·exact absurd (by simp) hd
     ·exact absurd (by simp) hd
     ·obtain⟨b5,e,h1,h2⟩:=hp
      exact⟨b5,e,h1,VHas.ch h2 hR (by decide) (by decide)⟩
     ·exact absurd (by simp) hd
     ·exact absurd (by simp) hd
    ·have hj2:j<17:=hj
     have hj3:j=0\/j=1\/j=2\/j=3\/j=4\/j=5\/j=6\/j=7\/j=8\/j=9\/j=10\/j=11\/j=12\/j=13\/j=14\/j=15\/j=16:=by omega
     rcases hj3 with rfl|rfl|rfl|rfl|rfl|rfl|rfl|rfl|rfl|rfl|rfl|rfl|rfl|rfl|rfl|rfl|rfl
     ·exact hp
     ·exact hp
     ·exact hp
     ·exact hp
     ·exact hp
     ·exact hp
     ·exact hp
     ·exact hp
     ·obtain⟨b5,hg,hT,_⟩:=hR
      exact CpV.gr hp hg hT
     ·exact hp
     ·obtain⟨b5,hg,hT,_⟩:=hR
      exact RcV.gr hp hg hT
     ·obtain⟨b5,hg,hT,_⟩:=hR
      exact RcV.gr hp hg hT
     ·obtain⟨b5,hg,hT,_⟩:=hR
      exact CpV.gr hp hg hT
     ·obtain⟨b5,hg,hT,_⟩:=hR
      exact NetV.gr hp hg hT
     ·exact absurd rfl hx
     ·exact absurd rfl hne
     ·obtain⟨b5,hg,hT,_⟩:=hR
      exact NetV.gr hp hg hT
   ·refine aA ?_ (aA ?_ (aA ?_ (aA ?_ (aA ?_ (aA ?_ (aA ?_ (aA ?_ (aA ?_ (aA ?_ (aA ?_ (aA ?_ (aA ?_ (aA ?_ (aA ?_ (aA ?_ (aA ?_ (eF)))))))))))))))))
    ·exact xq rfl rfl fun ev w9 v hG E pr=>by
      have e1:=E.was 0 _;simp[go_sem,e1]
    ·exact xq rfl rfl fun ev w9 v hG E pr=>by
      have e1:ev (.tmp 44)=.pointer (some ⟨b,0,none⟩):=E.tld pr 0 44;simp[go_sem,e1]
    ·exact xq rfl rfl fun ev w9 v hG E pr=>by
      have e1:ev (.tmp 45)=.pointer (some ⟨b,0,none⟩):=E.tld pr 1 45;simp[go_sem,e1]
    ·exact xq rfl rfl fun ev w9 v hG E pr=>by
      have e1:ev (.tmp 46)=.pointer (some ⟨b,0,none⟩):=E.tld pr 2 46;have cc:=(vn hD.x hG).cell (j:=0) (by omega);simp[lf]at cc;simp[go_sem,cc,e1]
    ·exact xq rfl rfl fun ev w9 v hG E pr=>by
      have e1:=E.was 4 _;simp[go_sem,e1]
    ·exact xq rfl rfl fun ev w9 v hG E pr=>by
      have e1:ev (.tmp 48)=.pointer (some ⟨bm,3,none⟩):=E.tld pr 4 48;have cc:=(vn hM hG).cell (j:=3) (by omega);simp[lf]at cc;simp[go_sem,cc,e1]
    ·exact xq rfl rfl fun ev w9 v hG E pr=>by
      have e1:ev (.tmp 47)=.slice (some ⟨g,0,none⟩) l.length cap:=E.tld pr 3 47;have e2:ev (.tmp 49)=.int .i64 z.m.to:=E.tld pr 5 49;simp[go_sem,hto1,ht0,htl,e1,e2]
    ·exact xq rfl rfl fun ev w9 v hG E pr=>by
      have e1:ev (.tmp 50)=.pointer (some ⟨g,t*10,none⟩):=E.tld pr 6 50;exact iC rfl e1 (GOwn.next hD.n hG) hy
    ·exact ExOk.call rfl fun ev w9 v hG E pr=>by
      have e1:ev (.tmp 51)=aX y.n y.s:=E.tld pr 7 51;refine⟨38,#[aX y.n y.s],by simp[go_sem,e1,E.fn],?_⟩;refine (jA y.n y.s hyz w9 (hyO.next hG).M).mono ?_;rintro e w8 ⟨s',rfl,hO,hb⟩;exact⟨_,rfl,hb,rt _ _ _ hG hb,s',rfl,hO.from hG.size⟩
    ·exact xq rfl rfl fun ev w9 v hG E pr=>by
      have e1:=E.was 4 _;exact gJ rfl e1 (vn hM hG)
    ·exact ExOk.call rfl fun ev w9 v hG E pr=>by
      obtain⟨s',e1,hO⟩:CpV w'.drew.heap.size y.n (ev (.tmp 52)) w9:=E.tld pr 8 52;have e2:ev (.tmp 53)=eS z.m z.eo z.ec:=E.tld pr 9 53;refine⟨37,#[aX y.n s',eS z.m z.eo z.ec],by simp[go_sem,e1,e2,E.fn],?_⟩;refine (pR y.n s' (hyk.zz hyt hO.K) z.m z.eo z.ec hzw.z hyk.B hzw.ix w'.drew.heap.size w9 hG.size hO (hzM.next hG)).mono ?_;rintro e w8 ⟨s,v2,rfl,h1,h2,h3⟩;exact⟨_,rfl,h3,CM hG h3,s,v2,rfl,h1,NetV.from h2 hG.size⟩
    ·exact ExOk.val rfl fun ev w9 v hG E pr=>⟨ev (.tmp 54),w9,by simp[go_sem],rr _,hG,E.tld pr 10 54⟩
    ·exact ExOk.val rfl fun ev w9 v hG E pr=>by
      obtain⟨s,u,e1,h1,h2⟩:RcV w'.drew.heap.size (cK y.n z.m) (eT y.n z.m) (ev (.tmp 43)) w9:=E.tld pr 11 43;exact⟨aX (cK y.n z.m) s,w9,by simp[go_sem,e1],rr _,hG,s,rfl,h1⟩
    ·exact ExOk.val rfl fun ev w9 v hG E pr=>by
      obtain⟨s,u,e1,h1,h2⟩:RcV w'.drew.heap.size (cK y.n z.m) (eT y.n z.m) (ev (.tmp 43)) w9:=E.tld pr 11 43;exact⟨u,w9,by simp[go_sem,e1],rr _,hG,h2⟩
    ·exact ExOk.val rfl fun ev w9 v hG E pr=>⟨.pointer (some ⟨w9.heap.size,0,none⟩),w9.alloc (.cells (aJ aU aP).toArray 27),(by (simp[go_sem])<;>rfl),ra _ _,rt _ _ _ hG (ra _ _),w9.heap.size,rfl,hG.size,aH w9 aU aP⟩
    ·exact ExOk.skip rfl (by decide) fun ev w9 v hG E pr=>by
      obtain⟨b5,e1,hb5,vB⟩:BxN w'.drew.heap.size (ev (.tmp 5)) w9:=E.tld pr 14 5;obtain⟨s,e2,hO⟩:CpV w'.drew.heap.size (cK y.n z.m) (ev (.tmp 55)) w9:=E.tld pr 12 55;have hg:w9.grownBy (setL w9 b5 0 (aJ (cK y.n z.m) s)) (some b5):=bP _ _ 0 _;have e3:v 14=ev (.tmp 5):=(E.at_ 14 5 rfl (by kernel_rfl) (nb (by kernel_rfl))).symm
      have h15:BxS w'.drew.heap.size (cK y.n z.m) (v 14) (setL w9 b5 0 (aJ (cK y.n z.m) s)):=by
       rw[e3];exact⟨b5,s,e1,hb5,bE _ vB,hO.gr hg (bA vB) (by decide) (by decide)⟩
      exact⟨_,bU (aJ (cK y.n z.m) s) rfl e1 e2 vB (by kernel_rfl) (cD (by kernel_rfl)),⟨b5,hg,vB.typed,hb5⟩,jO hG hg (fun x e=>by cases e;exact hb5),h15⟩
    ·exact ExOk.val rfl fun ev w9 v hG E pr=>⟨ev (.tmp 56),w9,by simp[go_sem],rr _,hG,E.tld pr 13 56⟩
   ·intro v8 W8 hG8 hp8
    have p15:(BxS w'.drew.heap.size (cK y.n z.m)) (v8 14) W8:=hp8 15 (by decide) (by kernel_rfl);have p16:(NetV w'.drew.heap.size (eT y.n z.m)) (v8 16) W8:=hp8 16 (by decide) (by kernel_rfl);clear hp8;obtain⟨b5,s5,e5,hb5,v5,hO5⟩:BxS w'.drew.heap.size (cK y.n z.m) (v8 14) W8:=p15;have hu5:NetV w'.drew.heap.size (eT y.n z.m) (v8 16) W8:=p16;simp only[bF,Nat.zero_add,Nat.reduceAdd,Act.put,sY,sZ,ss,e5];clear p16;generalize v8 16=u5 at hu5 ⊢;have hD2:=hD.next hG8;have hM2:MsB W8 bm z.m z.eo z.ec:=vn hM hG8;have hbl2:=aN hbl hbs hG8;have hHb:base<=w'.drew.heap.size:=Nat.le_trans hbs hbl.size;have hbn:=hG8.size;have hA9:∀ x,(Value.slice a9 q9.length c9).ownBlock=some x->x<w'.drew.heap.size:=fun x e=>(GOwn.at hD.m.o e).2
    obtain⟨hMi,hTi⟩:(cK y.n z.m).id=y.n.id/\(cK y.n z.m).peers=y.n.peers:=⟨(Trn.rcv hyk z.m).i,(Trn.rcv hyk z.m).p⟩
    have hPn:=hP2.put (z':=⟨(cK y.n z.m),s5⟩) hy (hyk.rcv z.m) hMi hTi (L2 hyt hzw.z);have hmsw:=DJ hyk hyt hzw;clear hD hM hbl hyO hzM hzE2 hG8 e5 hyz;replace hto1:Hid (z.m.to=(t:Int)):=hto1
    go_wp2_with fail
    replace hto1:=hto1.out;have hd:RB W8 W8.drew:=(Below.refl _ _).drew;have hD:=hD2.next hd;have hM:MsB W8.drew bm z.m z.eo z.ec:=vn hM2 hd;replace hO5:=hO5.next hd;have v5':NdB W8.drew b5 (cK y.n z.m) s5:=vn v5 hd;replace hu5:=NetV.rb _ _ _ hu5 hd;have hbl:=aN hbl2 hbs hd;clear v5 hD2 hM2 hbl2 hd;obtain⟨hO5,v5⟩:NdO W8.drew base (cK y.n z.m) s5/\NdB W8.drew b5 (cK y.n z.m) s5:=⟨hO5.from hHb,v5'⟩
    refine bW (by kernel_rfl) (by kernel_rfl) (by kernel_rfl) RB rr rt
     [isV (.pointer (some ⟨b,0,none⟩)),isV (.pointer (some ⟨b,0,none⟩)),isV (.pointer (some ⟨b,0,none⟩)),isV (.slice (some ⟨g,0,none⟩) l.length cap),isV (.pointer (some ⟨bm,3,none⟩)),isV (.int .i64 z.m.to),isV (aX (cK y.n z.m) s5),isV (.pointer (some ⟨g,t*10,none⟩))]
     ⟨iR,iR,iR,iR,iR,iR,iR,iR,trivial⟩ rfl ?_ _ rfl rfl rfl
     (fun v9 W9=>ClB W9 b base (l.set t ⟨(cK y.n z.m),s5⟩) q9 (some ⟨g,0,none⟩) cap a9 c9/\NetV w'.drew.heap.size (eT y.n z.m) u5 W9/\Below base w W9) ?_ ?_
    ·simp only[List.size_toArray,List.length_cons,List.length_nil,Nat.reduceAdd,Nat.reduceSub,List.take_succ_cons,List.take_zero]
     refine⟨?_,?_,?_,?_,?_,?_,?_,?_,trivial⟩
     ·exact ow 0
     ·exact o1 0 57
     ·exact o1 1 58
     ·exact oc 2 59 fun _ hR=>(hD.x.next hR).cell (j:=0) (by omega)
     ·exact ow 4
     ·exact oc 4 61 fun _ hR=>(hM.next hR).cell (j:=3) (by omega)
     ·exact oq rfl fun ev w9 v hR E pr=>by
       have e1:=E.was 5 _;exact bD rfl e1 (v5.next hR)
     ·exact oq rfl fun ev w9 v hR E pr=>by
       have e1:=E.eq pr 3 60;have e2:=E.eq pr 5 62;simp[go_sem,hto1,ht0,htl,e1,e2]
    ·intro ev w9 v hR E hp9
     obtain⟨_,_,_,_,_,_,p6,p7,_⟩:=hp9;have E1:=E.at_ 7 64 rfl (by kernel_rfl) (nb (by kernel_rfl));have E2:=E.at_ 6 63 rfl (by kernel_rfl) (nb (by kernel_rfl));rw[p7]at E1;rw[p6]at E2;have h9:=hD.next hR;have g9:=bP g (aJ (cK y.n z.m) s5) (t*10) w9;have hgn:∀ x,some g=some x->aG w9 x 27:=fun x e=>GOwn.typed h9.n (x:=x) (by cases e;rfl)
     exact⟨_,lV (aJ (cK y.n z.m) s5) rfl E1 E2 ((GOwn.vhas h9.n (by omega)).elim fun g' ⟨e',_,hv⟩=>by cases e';exact hv) (by show t*10+10<=l.length*10;omega) (by kernel_rfl) (cD (by kernel_rfl)),h9.put htL ⟨(cK y.n z.m),s5⟩ (hO5.next hR),NetV.gr (NetV.rb _ _ _ hu5 hR) g9 (hgn g rfl),kI (aN hbl hbs hR) hbs g9 (fun x e=>(GOwn.at h9.n (x:=x) (by cases e;rfl)).1)⟩
    ·intro v9 W9 hF9
     simp only[List.size_toArray,List.length_cons,List.length_nil,Nat.reduceAdd,Nat.reduceSub,List.take_succ_cons,List.take_zero,bF,Nat.zero_add,Act.put,sY,sZ,ss];obtain⟨hC9,hu9,hbl9⟩:=hF9;obtain⟨lo,lc,l2,eu,hl2,hN2⟩:=hu9;subst eu
     have hl2w:∀ q∈l2,MsW ((l.set t ⟨(cK y.n z.m),s5⟩).length:Int) q.m:=fun q hq=>by
      rw[List.length_set,<-hyp];exact hmsw q.m (by rw[<-hl2];exact List.mem_map_of_mem hq)
     have hl2n:l2.length<=1000:=by
      have e1:l2.length=(eT y.n z.m).length:=by rw[<-hl2,List.length_map]
      rw[e1];exact S8 hyk z.m
     clear hmsw hl2
     go_wp2_with fail
     refine (qS b base w'.drew.heap.size _ q9 _ cap a9 c9 l2 lo lc W9 (Nat.le_trans hbs hbl9.size) hbb hHb hC9 hPn hN2 hl2n hl2w (fun x e y' e'=>by
      have h1:=hA9 x e;have h2:w'.drew.heap.size<=y':=(GOwn.at hN2.o (x:=y') (by subst e';rfl)).1
      omega)).mono ?_
     rintro e w9 ⟨rfl,⟨q',eo',ec',hC',hP'⟩,hbl'⟩;go_wp2;simp[bodyPost,results,Tryz.results97,go_sem];exact⟨⟨_,⟨q',eo',ec',hC',hP'⟩,by rw[List.length_set]⟩,kQ hbl9 hbl' hbs⟩
def DK(n:Nd)(m:Ms):Nd:=if dG n=true then cK n m else aU
def DL(n:Nd)(m:Ms):List Ms:=if dG n=true then eT n m else []
theorem EW{b H:Nat}{u v w:World}(h:u.grownBy v (some b))(k:Ch H v w)(hH:u.heap.size<=H):u.grownBy w (some b):=
 ⟨k.os.trans h.os,k.tape.trans h.tape,k.output.trans h.output,Nat.le_trans h.size k.size,fun x hx hc=>(k.block x (Nat.lt_of_lt_of_le hx h.size) (.inl (by omega))).trans (h.block x hx hc)⟩
def GB(u:World)(b:Nat)(v:World):Prop:=u.grownBy v (some b)/\∃ f,VHas v b 27 10 f
theorem GB.rb{u v w:World}{b:Nat}(h:GB u b v)(k:RB v w):GB u b w:=⟨h.1.trans (jD k),h.2.elim fun f hf=>⟨f,vn hf k⟩⟩
theorem GB.ch{u v w:World}{b H:Nat}(h:GB u b v)(k:Ch H v w)(hH:u.heap.size<=H):GB u b w:=⟨EW h.1 k hH,h.2.elim fun f hf=>⟨f,VHas.ch hf k (by decide) (by decide)⟩⟩
theorem GB.put{u v:World}{b:Nat}(h:GB u b v)(n:Nd)(s:NdS):GB u b (setL v b 0 (aJ n s)):=⟨h.1.trans (bP _ _ 0 _),h.2.elim fun f hf=>⟨_,bE _ hf⟩⟩
theorem GB.typed{u v:World}{b:Nat}(h:GB u b v):aG v b 27:=h.2.elim fun f hf=>hf.typed
def BxR(b H:Nat)(n:Nd)(v:Value)(w:World):Prop:=∃ s,v=aX n s/\NdB w b n s/\NdO w H n s
theorem BxR.rb{b H:Nat}{n:Nd}(v:Value)(w w':World)(h:BxR b H n v w)(hb:RB w w'):BxR b H n v w':=by
 obtain⟨s,e,h1,h2⟩:=h;exact⟨s,e,vn h1 hb,h2.next hb⟩
theorem qY(n:Nd)(s:NdS)(hz:NdZ n s)(m:Ms)(eo:Option Addr)(ec:Nat)(hmz:MsZ m)(hix:-9223372036854775808<=m.index/\m.index<=9223372036854775807)(w:World)(hM:NdM w n s)(hE:MsM w m eo ec):Calls Tryz.prog 8 #[aX n s,eS m eo ec] w fun e w'=>GF (DK n m) (DL n m) w w' e:=by
 have hb:=rt _ _ _ (rt _ _ _ (ra w (.cells (aJ n s).toArray 27)) (ra _ (.cells (bZ m eo ec).toArray 29))) (ra _ (.cells (aJ aU aP).toArray 27));have vA:NdB _ w.heap.size n s:=((aH w n s).next (ra _ (.cells (bZ m eo ec).toArray 29))).next (ra _ (.cells (aJ aU aP).toArray 27));have vM:MsB _ (w.alloc (.cells (aJ n s).toArray 27)).heap.size m eo ec:=(bJ (w.alloc (.cells (aJ n s).toArray 27)) m eo ec).next (ra _ (.cells (aJ aU aP).toArray 27));have vR:=aH ((w.alloc (.cells (aJ n s).toArray 27)).alloc (.cells (bZ m eo ec).toArray 29)) aU aP;rw[World.size_alloc]at vM;rw[World.size_alloc,World.size_alloc]at vR;replace hM:=hM.next hb;replace hE:=hE.next hb;go_enter Tryz.func8,Tryz.ntmps8;refine aW fun K0 hK0=>?_
 go_wp2;refine hK0.out _ _ ?_;clear hK0;generalize (((w.alloc _).alloc _).alloc _)=W0 at hb vA vM vR hM hE ⊢;obtain⟨f0,f1,f2,f3,f4,f5,f6,f7,f8,f9⟩:=cN vA
 go_wp2_with fail
 clear f0 f1 f2 f3 f4 f5 f6 f7 f8 f9;refine (eW n s hz _ hM).mono ?_;rintro e W ⟨rfl,hb1⟩;replace hb:=rt _ _ _ hb hb1;replace vA:NdB W w.heap.size n s:=vn vA hb1;replace vM:MsB W (w.heap.size+1) m eo ec:=vn vM hb1;replace vR:NdB W (w.heap.size+1+1) aU aP:=vn vR hb1;replace hM:=hM.next hb1;replace hE:=hE.next hb1;clear hb1;rcases bq (dG n) with hB|hB
 rotate_left
 ·rw[hB]
  have HN:Hid (DK n m=aU):=by show _ = _;simp[DK,hB]
  have HL:Hid (DL n m=[]):=by show _ = _;simp[DL,hB]
  clear hB;have hal:=ra W (.cells #[] 29);have hN0:=A6 w W hb.size;replace vR:NdB (W.alloc (.cells #[] 29)) (w.heap.size+1+1) aU aP:=vn vR hal;replace hb:=rt _ _ _ hb hal;clear hal
  go_wp2_with (first|((with_reducible refine wB 27 (.tmp 4) (.tmp 9) ((w.heap.size+1+1)) (aJ (aU) (aP)) vR ?_);intro W9 hv9 hg9)|fail)
  obtain⟨q0,q1,q2,q3,q4,q5,q6,q7,q8,q9⟩:=cN hv9;exact bodyPost_ret (v:=.tuple #[aX aU aP,.slice (some ⟨W.heap.size,0,none⟩) 0 0]) (by simp[results,Tryz.results8,go_sem,q0,q1,q2,q3,q4,q5,q6,q7,q8,q9]) rfl (by rw[HN.out,HL.out];exact⟨aP,_,rfl,lE _ _,NetV.gr hN0 hg9 vR.typed,aV hb hg9 (by omega)⟩)
 rw[hB];have hBB:=xD hB;have HN:Hid (DK n m=cK n m):=by show _ = _;simp[DK,hB]
 have HL:Hid (DL n m=eT n m):=by show _ = _;simp[DL,hB]
 clear hB
 go_wp2_with fail
 have hd:RB W W.drew:=(Below.refl _ _).drew;have hA:NdB W.drew w.heap.size n s:=vn vA hd;have hMM:MsB W.drew (w.heap.size+1) m eo ec:=vn vM hd;have hRR:NdB W.drew (w.heap.size+1+1) aU aP:=vn vR hd;replace hM:=hM.next hd;replace hE:=hE.next hd;replace hb:=rt _ _ _ hb hd;have hT4:∀ x,some (w.heap.size+1+1)=some x->aG W.drew x 27:=bA hRR;have hGB:GB W.drew (w.heap.size+1+1) W.drew:=⟨jD (rr _),_,hRR⟩
 clear hd vA vM vR
 refine eG (by kernel_rfl) (by kernel_rfl) (by kernel_rfl) (fun W5=>GB W.drew (w.heap.size+1+1) W5) hGB (fun i=>if i=3 then Ch W.drew.heap.size else if i=6 then fun u v=>u.grownBy v (some (w.heap.size+1+1))/\aG u (w.heap.size+1+1) 27 else RB) [3,6]
  [isV (aX n s),CpV W.drew.heap.size n,isV (eS m eo ec),RcV W.drew.heap.size (cK n m) (eT n m),CpV W.drew.heap.size (cK n m),NetV W.drew.heap.size (eT n m),BxR (w.heap.size+1+1) W.drew.heap.size (cK n m),NetV W.drew.heap.size (eT n m)]
  [(1,3),(4,6)] [(6,4)] [(4,3),(5,3),(6,3),(7,3),(7,6)] (by kernel_rfl) (by kernel_rfl) ⟨iR,CpV.rb,iR,RcV.rb,CpV.rb,NetV.rb,BxR.rb,NetV.rb,trivial⟩ (fun i h=>by simp at h;simp[h]) ?_ ?_ ?_
 ·intro i hi j hj hne hx hd v w1 w2 hp hG hR
  simp only[List.mem_cons,List.not_mem_nil,or_false]at hi;rcases hi with rfl|rfl
  ·have hj2:j<8:=hj
   have hj3:j=0\/j=1\/j=2\/j=3\/j=4\/j=5\/j=6\/j=7:=by omega
   rcases hj3 with rfl|rfl|rfl|rfl|rfl|rfl|rfl|rfl
   ·exact hp
   ·exact absurd rfl hx
   ·exact hp
   ·exact absurd rfl hne
   ·exact absurd (by simp) hd
   ·exact absurd (by simp) hd
   ·exact absurd (by simp) hd
   ·exact absurd (by simp) hd
  ·have hj2:j<8:=hj
   have hj3:j=0\/j=1\/j=2\/j=3\/j=4\/j=5\/j=6\/j=7:=by omega
   rcases hj3 with rfl|rfl|rfl|rfl|rfl|rfl|rfl|rfl
   ·exact hp
   ·exact CpV.gr hp hR.1 hR.2
   ·exact hp
   ·exact RcV.gr hp hR.1 hR.2
   ·exact absurd rfl hx
   ·exact NetV.gr hp hR.1 hR.2
   ·exact absurd rfl hne
   ·exact absurd (by simp) hd
 ·refine aA ?_ (aA ?_ (aA ?_ (aA ?_ (aA ?_ (aA ?_ (aA ?_ (aA ?_ (eF))))))))
  ·exact xq rfl rfl fun ev w9 v hG E pr=>by
    have e1:=E.was 2 _;exact bD rfl e1 (VHas.grown hA hG.1 (fun e=>by have:=oI e;omega))
  ·exact ExOk.call rfl fun ev w9 v hG E pr=>by
    have e1:ev (.tmp 11)=aX n s:=E.tld pr 0 11;refine⟨38,#[aX n s],by simp[go_sem,e1,E.fn],?_⟩;refine (jA n s hz w9 (hM.gr hG.1 hT4 (by decide) (by decide))).mono ?_;rintro e w8 ⟨s',rfl,hO,hb⟩;exact⟨_,rfl,hb,hG.rb hb,s',rfl,hO.from hG.1.size⟩
  ·exact xq rfl rfl fun ev w9 v hG E pr=>by
    have e1:=E.was 3 _;exact gJ rfl e1 (VHas.grown hMM hG.1 (fun e=>by have:=oI e;omega))
  ·exact ExOk.call rfl fun ev w9 v hG E pr=>by
    obtain⟨s',e1,hO⟩:CpV W.drew.heap.size n (ev (.tmp 12)) w9:=E.tld pr 1 12;have e2:ev (.tmp 13)=eS m eo ec:=E.tld pr 2 13;refine⟨37,#[aX n s',eS m eo ec],by simp[go_sem,e1,e2,E.fn],?_⟩;refine (pR n s' ⟨hz.l,hz.v,hz.x,hz.m,hO.K.l,hO.K.v,hO.K.x,hO.K.m,hz.tx⟩ m eo ec hmz hBB hix W.drew.heap.size w9 hG.1.size hO ⟨hE.e.gr hG.1 hT4 (by decide),hE.c⟩).mono ?_;rintro e w8 ⟨s,v2,rfl,h1,h2,h3⟩;exact⟨_,rfl,h3,hG.ch h3 nl,s,v2,rfl,h1,NetV.from h2 hG.1.size⟩
  ·exact ExOk.val rfl fun ev w9 v hG E pr=>by
    obtain⟨s,u,e1,h1,h2⟩:RcV W.drew.heap.size (cK n m) (eT n m) (ev (.tmp 14)) w9:=E.tld pr 3 14;exact⟨aX (cK n m) s,w9,by simp[go_sem,e1],rr _,hG,s,rfl,h1⟩
  ·exact ExOk.val rfl fun ev w9 v hG E pr=>by
    obtain⟨s,u,e1,h1,h2⟩:RcV W.drew.heap.size (cK n m) (eT n m) (ev (.tmp 14)) w9:=E.tld pr 3 14;exact⟨u,w9,by simp[go_sem,e1],rr _,hG,h2⟩
  ·exact ExOk.skip rfl (by decide) fun ev w9 v hG E pr=>by
    have e1:=E.was 4 _;obtain⟨s,e2,hO⟩:CpV W.drew.heap.size (cK n m) (ev (.tmp 15)) w9:=E.tld pr 4 15;have hT9:=hG.typed;obtain⟨f9,v9⟩:=hG.2;have hg:w9.grownBy (setL w9 (w.heap.size+1+1) 0 (aJ (cK n m) s)) (some (w.heap.size+1+1)):=bP _ _ 0 _;have e3:v 4=ev (.tmp 15):=(E.at_ 4 15 rfl (by kernel_rfl) (nb (by kernel_rfl))).symm;exact⟨_,bU (aJ (cK n m) s) rfl e1 e2 v9 (by kernel_rfl) (cD (by kernel_rfl)),⟨hg,hT9⟩,hG.put _ _,s,e3.trans e2,bE _ v9,hO.gr hg (fun x e=>by cases e;exact hT9) (by decide) (by decide)⟩
  ·exact ExOk.val rfl fun ev w9 v hG E pr=>⟨ev (.tmp 16),w9,by simp[go_sem],rr _,hG,E.tld pr 5 16⟩
 ·intro v8 W8 hG8 hp8
  have p6:(BxR (w.heap.size+1+1) W.drew.heap.size (cK n m)) (v8 4) W8:=hp8 6 (by decide) (by kernel_rfl);have p7:(NetV W.drew.heap.size (eT n m)) (v8 7) W8:=hp8 7 (by decide) (by kernel_rfl);clear hp8;simp only[bF,Nat.zero_add,Nat.reduceAdd,Act.put,sY,sZ,ss];obtain⟨s5,e5,hv9,hO9⟩:=p6;obtain⟨q0,q1,q2,q3,q4,q5,q6,q7,q8,q9⟩:=cN hv9;go_wp2;have hs9:w.heap.size<=W.drew.heap.size:=hb.size;exact bodyPost_ret (v:=.tuple #[aX (cK n m) s5,v8 7]) (by simp[results,Tryz.results8,go_sem,q0,q1,q2,q3,q4,q5,q6,q7,q8,q9]) rfl (by rw[HN.out,HL.out];exact⟨s5,_,rfl,hO9.from hs9,NetV.from p7 hs9,aV hb hG8.1 (by omega)⟩)
theorem D9(x:Int)(w:World):Calls Tryz.prog 118 #[.int .i64 x] w fun e w'=>e=.returned (.bool false)/\w'=w:=by
 go_enter Tryz.func118,Tryz.ntmps118;go_wp2;go_ret;exact⟨by simp,rfl⟩
theorem O2(x:Int)(w:World):Calls Tryz.prog 102 #[.int .i64 x] w fun e w'=>e=.returned (.bool false)/\w'=w:=by
 go_enter Tryz.func102,Tryz.ntmps102;go_wp2;go_ret;exact⟨by simp,rfl⟩
theorem zD(x y:Int)(w:World):Calls Tryz.prog 101 #[.int .i64 x,.int .i64 y] w fun e w'=>e=.returned (.bool (decide (x<y)))/\w'=w:=by
 go_enter Tryz.func101,Tryz.ntmps101
 go_wp2_with fail
 refine (D9 _ _).mono ?_;rintro e w1 ⟨rfl,rfl⟩;go_wp2;go_ret;exact⟨by simp,rfl⟩
def EL(x:Int)(l:List Int)(w w':World)(e:Ending):Prop:=∃ i:Nat,i<=l.length/\(∀ j,j<i->aT l j<x)/\(∀ j,i<=j->j<l.length->x<=aT l j)/\e=.returned (.tuple #[.int .i64 (i:Int),.bool (decide (i<l.length/\aT l i=x))])/\RB w w'
theorem BH(x:Int)(l:List Int)(hl:l.length<=1048576)(hs:∀ i j,i<j->j<l.length->aT l i<aT l j)(ao:Option Addr)(cap:Nat)(w:World)(hr:LRow w 2 ao (cU l)):Calls Tryz.prog 73 #[.slice ao l.length cap,.int .i64 x] w fun e w'=>EL x l w w' e:=by
 have HS:Hid (∀ i j,i<j->j<l.length->aT l i<aT l j):=hs;clear hs;go_enter Tryz.func73,Tryz.ntmps73;go_wp2
 go_loopw [7,8] (fun x7 x8 wr=>∃ a b:Nat,a<=b/\b<=l.length/\x7=.int .i64 (a:Int)/\x8=.int .i64 (b:Int)/\Hid (∀ j,j<a->aT l j<x)/\Hid (∀ j,b<=j->j<l.length->x<=aT l j)/\RB w wr) (fun y z _=>(intOf z).toNat-(intOf y).toNat)
 case atStart=>exact⟨0,l.length,by omega,Nat.le_refl _,rfl,rfl,fun j hj=>by omega,fun j h1 h2=>by omega,rr _⟩
 case round=>
  obtain⟨a,b,hab,hbl,rfl,rfl,HA,HB,hRW⟩:=hrel
  by_cases hlt:a<b
  rotate_left
  ·have e:b=a:=by omega
   subst e;clear hlt
   by_cases hbl2:b<l.length
   rotate_left
   ·have hd:decide (b<l.length/\aT l b=x)=false:=by simp[hbl2]
    have hbl3:¬ (b:Int)<(l.length:Int):=by omega
    replace hd:Hid (decide (b<l.length/\aT l b=x)=false):=hd;go_wp2
    go_ret2
    exact⟨b,hbl,HA.out,HB.out,by rw[hd.out];first|rfl|(simp[go_sem];done)|(simp[go_sem,hbl2];done)|(simp[go_sem];omega),hRW⟩
   obtain⟨g,o,e,_,hcl⟩:=(hr.next hRW) (fun h=>by have:=cO l;rw[h]at this;simp at this;omega);subst e;have c0:=hcl b _ (fZ hbl2);have hk2:(b:Int)<(l.length:Int):=by omega
   have hk0:(0:Int)<=(b:Int):=by omega
   clear hcl;generalize hy:aT l b=y at c0;replace hy:Hid (aT l b=y):=hy
   by_cases hyx:y=x
   ·have hd:Hid (decide (b<l.length/\aT l b=x)=true):=by show _ = _;simp[hbl2,hy.out,hyx]
    subst hyx;go_wp2
    go_ret2
    exact⟨b,hbl,HA.out,HB.out,by rw[hd.out];first|rfl|(simp[go_sem];done)|(simp[go_sem,hbl2];done)|(simp[go_sem];omega),hRW⟩
   have hd:Hid (decide (b<l.length/\aT l b=x)=false):=by show _ = _;simp[hbl2,hy.out,hyx]
   have hyx':(y==x)=false:=by simp[hyx]
   clear hyx
   go_wp2_with fail
   refine (O2 _ _).mono ?_;rintro e w1 ⟨rfl,rfl⟩;go_wp2
   go_ret2
   exact⟨b,hbl,HA.out,HB.out,by rw[hd.out];first|rfl|(simp[go_sem];done)|(simp[go_sem,hbl2];done)|(simp[go_sem];omega),hRW⟩
  obtain⟨g,o,e,_,hcl⟩:=(hr.next hRW) (fun h=>by have:=cO l;rw[h]at this;simp at this;omega);subst e;have hml:(a+b) / 2<l.length:=by omega
  have c0:=hcl ((a+b) / 2) _ (fZ hml);clear hcl;generalize hy:aT l ((a+b) / 2)=y at c0;replace hy:Hid (aT l ((a+b) / 2)=y):=hy
  go_wp2_with fail
  refine (zD _ _ _).mono ?_;rintro e w1 ⟨rfl,rfl⟩
  by_cases hyx:y<x
  ·have HX:Hid (y<x):=hyx
   go_wp2
   go_roundw
   case rel=>exact⟨(a+b) / 2+1,b,by omega,hbl,by rw[show ((a:Int)+(b:Int)) / 2+1=(((a+b) / 2+1:Nat):Int) by omega],rfl,fun j hj=>by
    have h1:=HX.out;rcases Nat.lt_or_ge j ((a+b) / 2) with h|h
    ·have:=HS.out j ((a+b) / 2) h hml
     rw[hy.out]at this;omega
    ·have:j=(a+b) / 2:=by omega
     rw[this,hy.out]
     exact h1,HB,by first|exact hRW|exact Below.drew hRW⟩
   case measure=>simp[intOf];omega
  ·have HX:Hid (¬ y<x):=hyx
   go_wp2
   go_roundw
   case rel=>exact⟨a,(a+b) / 2,by omega,by omega,rfl,by rw[show ((a:Int)+(b:Int)) / 2=(((a+b) / 2:Nat):Int) by omega],HA,fun j hj hjl=>by
    have h1:=HX.out;rcases Nat.lt_or_ge ((a+b) / 2) j with h|h
    ·have:=HS.out ((a+b) / 2) j h hjl
     rw[hy.out]at this;omega
    ·have:j=(a+b) / 2:=by omega
     rw[this,hy.out]
     omega,by first|exact hRW|exact Below.drew hRW⟩
   case measure=>simp[intOf];omega
end
end Go.Proofs.YtbabakgjkloabaaGreatDoor
