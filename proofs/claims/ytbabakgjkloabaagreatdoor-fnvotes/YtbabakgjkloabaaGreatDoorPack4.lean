/-
  Helpers: NumR, NumsR, Wds, Keys, Has, Mark, ArcL, ArcsOf, OkA, CmdH.
-/
import Derived.Test.YtbabakgjkloabaaGreatDoorPack3
import Derived.WalkMore
import Derived.Maps.Own
import Derived.Maps.OwnOps
import Derived.Maps.OwnSet
import Derived.Maps.Views
import Derived.DeepKeys4
import Derived.Laws.CopyOwn
import Derived.Maps.AppendAt
import Derived.Maps.Range
import Derived.Deep.RegionLaw
import Derived.Deep.RegionWith
set_option linter.unusedVariables false
set_option linter.unusedSimpArgs false
set_option maxRecDepth 100000
set_option maxHeartbeats 16000000
namespace Go.Proofs.YtbabakgjkloabaaGreatDoor
section
open Go.RowKit
attribute [local go_sem ↓] Go.wp_at_zero Go.wp_at_succ
def BV(v:Option Int):Value:=.tuple #[.int .i64 (v.getD 0),.bool v.isSome]
theorem FQ(s:ByteArray)(k:Nat)(h:k<s.size):s.data.toList[k]?=some s[k]:=by
 rw[List.getElem?_eq_getElem (by simpa using h)];rfl
theorem BW{s:ByteArray}{d:List UInt8}{o j:Nat}(HT:Hid (∀ j (h:o+j<s.size),d[j]?=some s[o+j]))(h:o+j<s.size):d.take (j+1)=d.take j++[s[o+j]]:=by
 rw[List.take_add_one,HT.out j h];rfl
theorem Y4{s:ByteArray}{d:List UInt8}{j:Nat}(HT:Hid (∀ j (h:j<s.size),d[j]?=some s[j]))(h:j<s.size):d.take (j+1)=d.take j++[s[j]]:=by
 rw[List.take_add_one,HT.out j h];rfl
theorem L7(s:ByteArray)(o j:Nat)(h:o+j<s.size):(s.data.toList.drop o)[j]?=some s[o+j]:=by
 rw[List.getElem?_drop];exact FQ s (o+j) h
theorem P9(s:ByteArray)(o j:Nat)(h:o+j<s.size):(s.data.toList.drop o).take (j+1)=(s.data.toList.drop o).take j++[s[o+j]]:=by
 rw[List.take_add_one,L7 s o j h];rfl
theorem rL{c:UInt8}:iU c=true↔48<=(c.toNat:Int)/\(c.toNat:Int)<=57:=by simp[iU];omega
theorem Y5{l:List UInt8}{j:Nat}{c:UInt8}(h:l[j]?=some c)(hc:iU c=false):l.all iU=false:=by
 rw[List.all_eq_false];exact⟨c,List.mem_of_getElem? h,by simp[hc]⟩
theorem Y6{j:Nat}(h:j<=9):(10:Int) ^ j<=1000000000:=by
 have:j=0\/j=1\/j=2\/j=3\/j=4\/j=5\/j=6\/j=7\/j=8\/j=9:=by omega
 rcases this with rfl|rfl|rfl|rfl|rfl|rfl|rfl|rfl|rfl|rfl<;>decide
theorem Y7:∀ (l:List UInt8) (n:Int),l.all iU=true->0<=n->l.foldl (fun n c=>n*10+dg c) n<(n+1)*(10:Int) ^ l.length
 | [],n,_,_=>by simp;omega
 | c :: t,n,h,h0=>by
  simp at h;have hd:=wK h.1;have h2:=Y7 t (n*10+dg c) (by simpa using h.2) (by omega);simp only[List.foldl_cons,List.length_cons];have hp:(0:Int)<=(10:Int) ^ t.length:=Int.pow_nonneg (by decide);have e2:(n+1)*(10:Int) ^ (t.length+1)=((n+1)*10)*(10:Int) ^ t.length:=by rw[Int.pow_succ,Int.mul_comm ((10:Int) ^ t.length) 10,<-Int.mul_assoc]
  have m2:(n*10+dg c+1)*(10:Int) ^ t.length<=((n+1)*10)*(10:Int) ^ t.length:=Int.mul_le_mul_of_nonneg_right (by omega) hp;rw[e2];omega
theorem Y8{l:List UInt8}(h:l.all iU=true)(hl:l.length<=9):0<=val l/\val l<1000000000:=by
 have h1:=Y7 l 0 h (Int.le_refl _);have h2:=Y6 hl;have h0:=oJ h;unfold val at h0 ⊢;omega
theorem xU(s:ByteArray)(hs:s.size<=1048576)(hne:0<s.size)(h45:s[0]=45)(d:List UInt8)(HL:Hid (d.length=s.size-1))(HT:Hid (∀ j (h:1+j<s.size),d[j]?=some s[1+j]))(w:World):
  Calls Tryz.prog 116 #[.string s] w fun e w'=>e=.returned (BV (iK true d))/\w'=w:=by
 have hse:s.toList.isEmpty=false:=by
  rw[ByteArray.toList_eq,List.isEmpty_eq_false_iff];intro e;have h0:s.data.toList.length=0:=by rw[e];rfl
  have h9:s.data.toList.length=s.size:=by simp
  omega
 have hc0:(s[0].toNat:Int)=45:=by
  rw[h45];rfl
 by_cases hsh:s.size-1<1\/9<s.size-1
 ·have hn:iK true d=none:=by
   unfold iK;rw[if_pos (by rw[HL.out];omega)]
  rw[hn];rcases hsh with hsh|hsh
  ·have h1:(s.size:Int)-1<1:=by omega
   go_enter Tryz.func116,Tryz.ntmps116;go_wp2
   go_ret2
   exact⟨rfl,rfl⟩
  ·have h1:¬ (s.size:Int)-1<1:=by omega
   have h2:9<(s.size:Int)-1:=by omega
   go_enter Tryz.func116,Tryz.ntmps116;go_wp2
   go_ret2
   exact⟨rfl,rfl⟩
 have h1:¬ (s.size:Int)-1<1:=by omega
 have h2:¬ 9<(s.size:Int)-1:=by omega
 go_enter Tryz.func116,Tryz.ntmps116;go_wp2
 go_loop [6,7] (fun n k=>∃ j:Nat,1+j<=s.size/\k=.int .i64 (((1+j:Nat)):Int)/\(d.take j).all iU=true/\n=.int .i64 (val (d.take j))) (fun _ k=>s.size-(intOf k).toNat)
 case atStart=>exact⟨0,by omega,rfl,by simp,by simp[val]⟩
 case round=>
  obtain⟨j,hj,rfl,hall,rfl⟩:=hrel;obtain⟨v0,v1⟩:=Y8 hall (by rw[List.length_take,HL.out];omega);have HA:Hid ((d.take j).all iU=true):=hall;clear hall
  by_cases hlt:1+j<s.size
  ·have hc:s[1+j].toNat<256:=s[1+j].toNat_lt
   have hlt':((1+j:Nat):Int)<(s.size:Int):=by omega
   have hk0:(0:Int)<=((1+j:Nat):Int):=by omega
   cases hd:iU s[1+j] with
   | true=>
    obtain⟨d1,d2⟩:=rL.1 hd;have e1:=BW HT hlt
    have HV:Hid (val (d.take (j+1))=val (d.take j)*10+((s[1+j].toNat:Int)-48)):=by
     show _ = _
     rw[e1,tD];rfl
    have HB:Hid ((d.take (j+1)).all iU=true):=by
     show _ = _
     rw[e1];exact tE.2 ⟨HA.out,hd⟩
    clear e1;go_wp2
    go_round
    case rel=>exact⟨j+1,by omega,by go_num,HB.out,by rw[HV.out]⟩
    case measure=>simp[intOf];omega
   | false=>
    have hn:iK true d=none:=by
     unfold iK
     split
     ·rfl
     rw[if_pos (Y5 (HT.out j hlt) hd)]
    have HN:Hid (iK true d=none):=hn;clear hn
    by_cases c1:(s[1+j].toNat:Int)<48
    ·go_wp2
     go_ret2
     exact⟨by rw[HN.out];rfl,rfl⟩
    ·have c2:57<(s[1+j].toNat:Int):=by
      by_cases h:(s[1+j].toNat:Int)<=57
      ·rw[rL.2 ⟨by omega,h⟩]at hd
       cases hd
      ·omega
     go_wp2
     go_ret2
     exact⟨by rw[HN.out];rfl,rfl⟩
  ·have ht:d.take j=d:=List.take_of_length_le (by rw[HL.out];omega)
   have hh:d.head?=some s[1]:=by
    rw[List.head?_eq_getElem?];exact HT.out 0 (by omega)
   have hall:=HA.out;rw[ht]at v0 v1 hall ⊢
   have HNN:Hid (iK true d=if s[1]=48/\(true=true\/1<s.size-1) then none else some (if true=true then-val d else val d)):=by
    show _ = _
    unfold iK;rw[if_neg (by rw[HL.out];omega),if_neg (by rw[hall];simp),hh,HL.out];simp
   have hlt':¬ ((1+j:Nat):Int)<(s.size:Int):=by omega
   have hc:s[1].toNat<256:=s[1].toNat_lt;clear ht HA hh hall
   by_cases h48:s[1]=48
   ·have hz:(s[1].toNat:Int)=48:=by rw[h48];rfl
    go_wp2
    go_ret2
    exact⟨by rw[HNN.out,if_pos (by simp[h48])];rfl,rfl⟩
   ·have hz:¬ (s[1].toNat:Int)=48:=fun e=>h48 (UInt8.toNat_inj.1 (by simp;omega))
    have hz':((s[1].toNat:Int)==48)=false:=by simpa using hz
    go_wp2
    go_ret2
    exact⟨by rw[HNN.out,if_neg (fun e=>h48 e.1)];rfl,rfl⟩
theorem xV(s:ByteArray)(hs:s.size<=1048576)(hne:0<s.size)(h45:s[0]≠45)(d:List UInt8)(HL:Hid (d.length=s.size-0))(HT:Hid (∀ j (h:j<s.size),d[j]?=some s[j]))(w:World):
  Calls Tryz.prog 116 #[.string s] w fun e w'=>e=.returned (BV (iK false d))/\w'=w:=by
 have hse:s.toList.isEmpty=false:=by
  rw[ByteArray.toList_eq,List.isEmpty_eq_false_iff];intro e;have h0:s.data.toList.length=0:=by rw[e];rfl
  have h9:s.data.toList.length=s.size:=by simp
  omega
 have hc0:(s[0].toNat:Int)≠45:=by
  intro e;exact h45 (UInt8.toNat_inj.1 (by simp;omega))
 have hc0b:((s[0].toNat:Int)==45)=false:=by simpa using hc0
 by_cases hsh:s.size-0<1\/9<s.size-0
 ·have hn:iK false d=none:=by
   unfold iK;rw[if_pos (by rw[HL.out];omega)]
  rw[hn];rcases hsh with hsh|hsh
  ·have h1:(s.size:Int)<1:=by omega
   go_enter Tryz.func116,Tryz.ntmps116;go_wp2
   go_ret2
   exact⟨rfl,rfl⟩
  ·have h1:¬ (s.size:Int)<1:=by omega
   have h2:9<(s.size:Int):=by omega
   go_enter Tryz.func116,Tryz.ntmps116;go_wp2
   go_ret2
   exact⟨rfl,rfl⟩
 have h1:¬ (s.size:Int)<1:=by omega
 have h2:¬ 9<(s.size:Int):=by omega
 go_enter Tryz.func116,Tryz.ntmps116;go_wp2
 go_loop [6,7] (fun n k=>∃ j:Nat,j<=s.size/\k=.int .i64 (j:Int)/\(d.take j).all iU=true/\n=.int .i64 (val (d.take j))) (fun _ k=>s.size-(intOf k).toNat)
 case atStart=>exact⟨0,by omega,rfl,by simp,by simp[val]⟩
 case round=>
  obtain⟨j,hj,rfl,hall,rfl⟩:=hrel;obtain⟨v0,v1⟩:=Y8 hall (by rw[List.length_take,HL.out];omega);have HA:Hid ((d.take j).all iU=true):=hall;clear hall
  by_cases hlt:j<s.size
  ·have hc:s[j].toNat<256:=s[j].toNat_lt
   have hlt':((j:Nat):Int)<(s.size:Int):=by omega
   have hk0:(0:Int)<=((j:Nat):Int):=by omega
   cases hd:iU s[j] with
   | true=>
    obtain⟨d1,d2⟩:=rL.1 hd;have e1:=Y4 HT hlt
    have HV:Hid (val (d.take (j+1))=val (d.take j)*10+((s[j].toNat:Int)-48)):=by
     show _ = _
     rw[e1,tD];rfl
    have HB:Hid ((d.take (j+1)).all iU=true):=by
     show _ = _
     rw[e1];exact tE.2 ⟨HA.out,hd⟩
    clear e1;go_wp2
    go_round
    case rel=>exact⟨j+1,by omega,by go_num,HB.out,by rw[HV.out]⟩
    case measure=>simp[intOf];omega
   | false=>
    have hn:iK false d=none:=by
     unfold iK
     split
     ·rfl
     rw[if_pos (Y5 (HT.out j hlt) hd)]
    have HN:Hid (iK false d=none):=hn;clear hn
    by_cases c1:(s[j].toNat:Int)<48
    ·go_wp2
     go_ret2
     exact⟨by rw[HN.out];rfl,rfl⟩
    ·have c2:57<(s[j].toNat:Int):=by
      by_cases h:(s[j].toNat:Int)<=57
      ·rw[rL.2 ⟨by omega,h⟩]at hd
       cases hd
      ·omega
     go_wp2
     go_ret2
     exact⟨by rw[HN.out];rfl,rfl⟩
  ·have ht:d.take j=d:=List.take_of_length_le (by rw[HL.out];omega)
   have hh:d.head?=some s[0]:=by
    rw[List.head?_eq_getElem?];exact HT.out 0 (by omega)
   have hall:=HA.out;rw[ht]at v0 v1 hall ⊢
   have HNN:Hid (iK false d=if s[0]=48/\(false=true\/1<s.size-0) then none else some (if false=true then-val d else val d)):=by
    show _ = _
    unfold iK;rw[if_neg (by rw[HL.out];omega),if_neg (by rw[hall];simp),hh,HL.out];simp
   have hlt':¬ ((j:Nat):Int)<(s.size:Int):=by omega
   have hc:s[0].toNat<256:=s[0].toNat_lt;clear ht HA hh hall
   by_cases h48:s[0]=48
   ·have hz:(s[0].toNat:Int)=48:=by rw[h48];rfl
    by_cases hl1:1<s.size
    ·have hl1':(1:Int)<(s.size:Int):=by omega
     go_wp2
     go_ret2
     exact⟨by rw[HNN.out,if_pos ⟨h48,.inr (by omega)⟩];rfl,rfl⟩
    ·have hl1':¬ (1:Int)<(s.size:Int):=by omega
     go_wp2
     go_ret2
     exact⟨by rw[HNN.out,if_neg (by rintro⟨_,h|h⟩;cases h;omega)];rfl,rfl⟩
   ·have hz:¬ (s[0].toNat:Int)=48:=fun e=>h48 (UInt8.toNat_inj.1 (by simp;omega))
    have hz':((s[0].toNat:Int)==48)=false:=by simpa using hz
    go_wp2
    go_ret2
    exact⟨by rw[HNN.out,if_neg (fun e=>h48 e.1)];rfl,rfl⟩
theorem CP(s:ByteArray)(h:0<s.size):s.data.toList.head?=some s[0]:=by
 rw[List.head?_eq_getElem?];exact FQ s 0 h
theorem xW(s:ByteArray)(hs:s.size<=1048576)(w:World):
  Calls Tryz.prog 116 #[.string s] w fun e w'=>e=.returned (BV (fT s.data.toList))/\w'=w:=by
 by_cases hne:0<s.size
 ·by_cases h45:s[0]=45
  ·have e:fT s.data.toList=iK true (s.data.toList.drop 1):=by
    unfold fT;rw[if_pos (by rw[CP s hne,h45]),<-List.drop_one]
   rw[e];exact xU s hs hne h45 _ (by show _ = _;simp) (fun j h=>L7 s 1 j h) w
  ·have e:fT s.data.toList=iK false (s.data.toList.drop 0):=by
    unfold fT;rw[if_neg (by rw[CP s hne];simpa using h45),List.drop_zero]
   rw[e];exact xV s hs hne h45 _ (by show _ = _;simp) (fun j h=>by rw[List.drop_zero];exact FQ s j h) w
 ·have hz:s.size=0:=by omega
  have hl:s.data.toList=[]:=List.eq_nil_of_length_eq_zero (by simpa using hz)
  have hse:s=(⟨#[]⟩:ByteArray):=by
   apply ByteArray.ext;apply Array.ext';simpa using hl
  rw[hl,pH];subst hse;go_enter Tryz.func116,Tryz.ntmps116;go_wp2
  go_ret2
  exact⟨rfl,rfl⟩
def gd(ns:List Int)(j:Nat):Int:=ns.getD j 0
theorem oN{ns:List Int}{n:Int}{j:Nat}(h:j<ns.length):gd (ns++[n]) j=gd ns j:=by
 simp[gd,List.getElem?_append_left h]
theorem oO(ns:List Int)(n:Int):gd (ns++[n]) ns.length=n:=by simp[gd]
theorem gR(s:ByteArray)(a b:Nat):(s.extract a b).data.toList=(s.data.toList.drop a).take (b-a):=by
 simp[ByteArray.data_extract,List.extract]
theorem wS(s:ByteArray)(i:Nat)(h:i<s.size):s.data.toList.drop i=s[i] :: s.data.toList.drop (i+1):=by
 rw[List.drop_eq_getElem_cons (by simpa using h)];rfl
theorem AZ(s:ByteArray){fr i:Nat}(h:fr<=i)(hi:i<s.size):(s.data.toList.drop fr).take (i+1-fr)=(s.data.toList.drop fr).take (i-fr)++[s[i]]:=by
 obtain⟨j,rfl⟩:∃ j,i=fr+j:=⟨i-fr,by omega⟩
 rw[show fr+j+1-fr=j+1 by omega,show fr+j-fr=j by omega];exact P9 s fr j hi
def Stand(s:ByteArray)(T:Option (List Int))(i fr:Nat)(ns:List Int):Prop:=
 (i<=s.size/\fr<=i/\bG (s.data.toList.drop i) ns ((s.data.toList.drop fr).take (i-fr))=T)\/(i=s.size+1/\T=some ns)
theorem Stand.on{s:ByteArray}{T:Option (List Int)}{i fr:Nat}{ns:List Int}(h:Stand s T i fr ns)(hi:i<s.size)(hc:s[i]≠32):Stand s T (i+1) fr ns:=by
 rcases h with ⟨h1,h2,h3⟩|⟨h1,_⟩
 ·refine .inl ⟨by omega,by omega,?_⟩
  rw[AZ s h2 hi,<-h3,wS s i hi];simp[bG,hc]
 ·omega
theorem Stand.word{s:ByteArray}{T:Option (List Int)}{i fr:Nat}{ns:List Int}(h:Stand s T i fr ns)(hi:i<=s.size)(hc:(hi:i<s.size)->s[i]=32):
  (∀ n,fT ((s.data.toList.drop fr).take (i-fr))=some n->Stand s T (i+1) (i+1) (ns++[n]))/\(fT ((s.data.toList.drop fr).take (i-fr))=none->T=none):=by
 rcases h with ⟨h1,h2,h3⟩|⟨h1,_⟩
 ·by_cases hlt:i<s.size
  ·rw[wS s i hlt,hc hlt]at h3
   constructor
   ·intro n hn
    refine .inl ⟨by omega,Nat.le_refl _,?_⟩;rw[<-h3];simp[bG,hn]
   ·intro hn
    rw[<-h3];simp[bG,hn]
  ·have he:i=s.size:=by omega
   have hd:s.data.toList.drop i=[]:=List.drop_eq_nil_of_le (by simp;omega);rw[hd]at h3;constructor
   ·intro n hn
    refine .inr ⟨by omega,?_⟩;rw[<-h3];simp[bG,hn]
   ·intro hn
    rw[<-h3];simp[bG,hn]
 ·omega
def DW(w w':World)(e:Ending)(T:Option (List Int)):Prop:=
 ∃ (ns:List Int) (ok:Bool) (g cap:Nat),e=.returned (.tuple #[.slice (some ⟨g,0,none⟩) ns.length cap,.bool ok])/\((ok=true/\T=some ns)\/(ok=false/\T=none))/\ns.length<=1048577/\IOwn w' w.heap.size g cap ns.length (gd ns)/\Below w.heap.size w w'
theorem nZ(s:ByteArray)(hs:s.size<=1048576)(w:World):
  Calls Tryz.prog 94 #[.string s] w fun e w'=>DW w w' e (bG s.data.toList [] []):=by
 have HS0:Hid (Stand s (bG s.data.toList [] []) 0 0 []):=.inl ⟨by omega,Nat.le_refl _,by simp⟩;generalize bG s.data.toList [] []=T at HS0 ⊢;have hO0:IOwn (w.alloc (.cells #[] 2)) w.heap.size w.heap.size 0 0 (gd []):=IOwn.empty w nl _;go_enter Tryz.func94,Tryz.ntmps94;go_wp2
 go_loopw [4,5,6] (fun o f x wr=>∃ (i fr g c:Nat) (ns:List Int),i<=s.size+1/\fr<=i/\ns.length<=i/\x=.int .i64 i/\f=.int .i64 fr/\o=.slice (some ⟨g,0,none⟩) ns.length c/\Hid (Stand s T i fr ns)/\IOwn wr w.heap.size g c ns.length (gd ns)/\Below w.heap.size w wr) (fun _ _ x _=>s.size+1-(intOf x).toNat)
 case atStart=>exact⟨0,0,w.heap.size,0,[],by omega,Nat.le_refl _,Nat.le_refl _,rfl,rfl,rfl,HS0,hO0,(Below.refl _ _).alloc nl _⟩
 case round=>
  clear hO0 HS0;obtain⟨i,fr,g,c,ns,hi,hfr,hln,rfl,rfl,rfl,HS,hown,hbel⟩:=hrel;have hgl:=hown.lt;have hgb:=hown.base
  by_cases hle:i<=s.size
  rotate_left
  ·have hle':¬ (i:Int)<=(s.size:Int):=by omega
   have HT:Hid (T=some ns):=by
    rcases HS.out with h|h
    ·omega
    ·exact h.2
   go_wp2
   go_ret2
   exact⟨ns,true,g,c,rfl,.inl ⟨rfl,HT.out⟩,by omega,hown,hbel⟩
  have hle':(i:Int)<=(s.size:Int):=by omega
  by_cases hc:∃ h:i<s.size,s[i]≠32
  ·obtain⟨hlt,hc⟩:=hc
   have hlt':(i:Int)<(s.size:Int):=by omega
   have hi0:(0:Int)<=(i:Int):=by omega
   have hz:¬ (s[i].toNat:Int)=32:=fun e=>hc (UInt8.toNat_inj.1 (by simp;omega))
   have hzb:((s[i].toNat:Int) != 32)=true:=by simpa using hz
   have HS1:Hid (Stand s T (i+1) fr ns):=HS.out.on hlt hc;clear hc hz;go_wp2
   go_roundw
   case rel=>exact⟨i+1,fr,g,c,ns,by omega,by omega,by omega,by go_num,rfl,rfl,HS1,hown,hbel⟩
   case measure=>simp[intOf];omega
  have hc':(h:i<s.size)->s[i]=32:=fun h=>Classical.byContradiction fun e=>hc ⟨h,e⟩
  obtain⟨w1,w2⟩:=HS.out.word hle hc';have HW1:Hid (∀ n,fT ((s.data.toList.drop fr).take (i-fr))=some n->Stand s T (i+1) (i+1) (ns++[n])):=w1;have HW2:Hid (fT ((s.data.toList.drop fr).take (i-fr))=none->T=none):=w2
  have HX:Hid (∀ W,Calls Tryz.prog 116 #[.string (s.extract fr i)] W fun e w'=>e=.returned (BV (fT ((s.data.toList.drop fr).take (i-fr))))/\w'=W):=fun W=>by
   have:=xW (s.extract fr i) (by simp;omega) W
   rwa [gR]at this
  clear w1 w2;have hi0:(0:Int)<=(i:Int):=by omega
  have hf0:(0:Int)<=(fr:Int):=by omega
  have hfi:(fr:Int)<=(i:Int):=by omega
  have hcond:(i<s.size/\(∃ h:i<s.size,((s[i].toNat:Int) != 32)=false))\/¬ i<s.size:=by
   by_cases hlt:i<s.size
   ·exact .inl ⟨hlt,hlt,by rw[hc' hlt];rfl⟩
   ·exact .inr hlt
  have hstep:∀ n:Int,fT ((s.data.toList.drop fr).take (i-fr))=some n->Hid (Stand s T (i+1) (i+1) (ns++[n])):=fun n h=>HW1.out n h
  have HST:Hid (∀ n:Int,fT ((s.data.toList.drop fr).take (i-fr))=some n->Hid (Stand s T (i+1) (i+1) (ns++[n]))):=hstep;clear hstep hc hc' HW1 HS;cases hn:fT ((s.data.toList.drop fr).take (i-fr)) with
  | none=>
   rw[hn]at HX;have HX0:Hid (∀ W,Calls Tryz.prog 116 #[.string (s.extract fr i)] W fun e w'=>e=.returned (.tuple #[.int .i64 0,.bool false])/\w'=W):=HX;clear HX;have HX:=HX0;clear HX0;have HT:Hid (T=none):=HW2.out hn;clear HW2 HST hn;rcases hcond with ⟨hlt,hlt2,hzb⟩|hlt
   ·have hlt':(i:Int)<(s.size:Int):=by omega
    go_wp2_with (go_at_call 116;refine (HX.out _).mono ?_;rintro e w1 ⟨rfl,hq⟩;have hq':=hq.symm;subst hq';clear hq)
    go_ret2
    exact⟨ns,false,g,c,rfl,.inr ⟨rfl,HT.out⟩,by omega,hown,hbel⟩
   ·have hlt':¬ (i:Int)<(s.size:Int):=by omega
    go_wp2_with (go_at_call 116;refine (HX.out _).mono ?_;rintro e w1 ⟨rfl,hq⟩;have hq':=hq.symm;subst hq';clear hq)
    go_ret2
    exact⟨ns,false,g,c,rfl,.inr ⟨rfl,HT.out⟩,by omega,hown,hbel⟩
  | some n=>
   rw[hn]at HX;have HX0:Hid (∀ W,Calls Tryz.prog 116 #[.string (s.extract fr i)] W fun e w'=>e=.returned (.tuple #[.int .i64 n,.bool true])/\w'=W):=HX;clear HX;have HX:=HX0;clear HX0;have HSn:=HST.out n hn;clear HW2 HST hn;rcases hcond with ⟨hlt,hlt2,hzb⟩|hlt
   ·have hlt':(i:Int)<(s.size:Int):=by omega
    go_wp2_with (first|(go_at_call 116;refine (HX.out _).mono ?_;rintro e w1 ⟨rfl,hq⟩;have hq':=hq.symm;subst hq';clear hq)|(at_builtin;refine kE rfl _ _ rfl w.heap.size g c ns.length (gd ns) rfl (by exact hown.below ((Below.refl _ _).alloc nl _) (by omega)) ⟨wr.heap.size,0,none⟩ 1 n rfl (by simp[go_sem]) (by omega) (by simp;omega) ?_;intro g' c' w3 hown3 hgrow3 hat3))
    have hown4:=hown3 (gd (ns++[n])) (fun j hj=>oN hj) (oO ns n);have hB3:=(hbel.alloc (o:=.cells #[.int .i64 n] 2) (by omega)).grown hgrow3 (by simp;omega) (fun j hj=>by cases hj;omega);have hl1:(ns++[n]).length=ns.length+1:=by simp
    go_roundw
    case rel=>exact⟨i+1,i+1,g',c',ns++[n],by omega,Nat.le_refl _,by rw[hl1];omega,by go_num,by go_num,by rw[hl1],HSn,by rw[hl1];exact hown4,hB3⟩
    case measure=>simp[intOf];omega
   ·have hlt':¬ (i:Int)<(s.size:Int):=by omega
    go_wp2_with (first|(go_at_call 116;refine (HX.out _).mono ?_;rintro e w1 ⟨rfl,hq⟩;have hq':=hq.symm;subst hq';clear hq)|(at_builtin;refine kE rfl _ _ rfl w.heap.size g c ns.length (gd ns) rfl (by exact hown.below ((Below.refl _ _).alloc nl _) (by omega)) ⟨wr.heap.size,0,none⟩ 1 n rfl (by simp[go_sem]) (by omega) (by simp;omega) ?_;intro g' c' w3 hown3 hgrow3 hat3))
    have hown4:=hown3 (gd (ns++[n])) (fun j hj=>oN hj) (oO ns n);have hB3:=(hbel.alloc (o:=.cells #[.int .i64 n] 2) (by omega)).grown hgrow3 (by simp;omega) (fun j hj=>by cases hj;omega);have hl1:(ns++[n]).length=ns.length+1:=by simp
    go_roundw
    case rel=>exact⟨i+1,i+1,g',c',ns++[n],by omega,Nat.le_refl _,by rw[hl1];omega,by go_num,by go_num,by rw[hl1],HSn,by rw[hl1];exact hown4,hB3⟩
    case measure=>simp[intOf];omega
theorem OwnE.congr{w:World}{base n cap:Nat}{go:Option Addr}{f g:Nat->Int}(h:OwnE w base go n cap f)(e:∀ j,j<n->f j=g j):OwnE w base go n cap g:=by
 unfold OwnE at h ⊢;rw[<-oZ e];exact h
theorem I4{l:List UInt8}{out:List Int}(h:out.length=30):aZ l (.ahead out)=none:=by
 cases l with
 | nil=>rfl
 | cons c t=>simp[aZ,h]
def oM:Value->Nat
 | .string t=>t.size
 | _=>0
def R7(l:Nat)(a:Act)(_:World):Nat:=if l=2 then 0 else if l=3 then 2*oM (a.tmps.getD 9 undef)+3 else if l=4 then 2*oM (a.tmps.getD 9 undef)+3 else 2*oM (a.tmps.getD 9 undef)+2
def FY(w w':World)(e:Ending)(T:Option (List UInt8 × List Int)):Prop:=
 ∃ (nm:ByteArray) (ns:List Int) (ok:Bool) (go:Option Addr) (gc:Nat),e=.returned (.tuple #[.string nm,.slice go ns.length gc,.bool ok])/\((ok=true/\T=some (nm.data.toList,ns))\/(ok=false/\T=none))/\ns.length<=30/\OwnE w' w.heap.size go ns.length gc (gd ns)/\Below w.heap.size w w'
def GM(s:ByteArray)(w:World)(a:Act)(w':World):Prop:=∃ (ρ : ByteArray) (u5:Value) (us:Nat->Value),a={ tmps:=#[.string s,undef,.string ⟨#[]⟩,.slice none 0 0,.bool false,u5,.string ⟨#[]⟩,.int .i64 0,.slice none 0 0,.string ρ,us 10,us 11,us 12,us 13,us 14,us 15,us 16,us 17,us 18,us 19,us 20,us 21,us 22,us 23,us 24,us 25,us 26,us 27,us 28,us 29,us 30,us 31,us 32,us 33,us 34,us 35,us 36,us 37,us 38,us 39,us 40,us 41,us 42,us 43,us 44,us 45,us 46,us 47,us 48,us 49,us 50,us 51,us 52,us 53,us 54,us 55,us 56,us 57,us 58,us 59,us 60,us 61,us 62,us 63,us 64,us 65,us 66,us 67,us 68,us 69,us 70,us 71,us 72,us 73,us 74,us 75,us 76,us 77,us 78,us 79,us 80,us 81],defers:=[] }/\Hid (pW s.data.toList ρ.data.toList)/\ρ.size<=1048576/\Below w.heap.size w w'
def GN(s:ByteArray)(w:World)(a:Act)(w':World):Prop:=∃ (ρ nm:ByteArray) (out:List Int) (go:Option Addr) (gc k:Nat) (u5 u7:Value) (us:Nat->Value),a={ tmps:=#[.string s,undef,.string ⟨#[]⟩,.slice none 0 0,.bool false,u5,.string nm,u7,.slice go k gc,.string ρ,us 10,us 11,us 12,us 13,us 14,us 15,us 16,us 17,us 18,us 19,us 20,us 21,us 22,us 23,us 24,us 25,us 26,us 27,us 28,us 29,us 30,us 31,us 32,us 33,us 34,us 35,us 36,us 37,us 38,us 39,us 40,us 41,us 42,us 43,us 44,us 45,us 46,us 47,us 48,us 49,us 50,us 51,us 52,us 53,us 54,us 55,us 56,us 57,us 58,us 59,us 60,us 61,us 62,us 63,us 64,us 65,us 66,us 67,us 68,us 69,us 70,us 71,us 72,us 73,us 74,us 75,us 76,us 77,us 78,us 79,us 80,us 81],defers:=[] }/\Hid (vU s.data.toList=(aZ ρ.data.toList (.ahead out)).map (fun ns=>(nm.data.toList,ns)))/\Hid (k=out.length)/\k<=30/\ρ.size<=1048576/\OwnE w' w.heap.size go k gc (gd out)/\Below w.heap.size w w'
def GO(s:ByteArray)(w:World)(a:Act)(w':World):Prop:=∃ (u5 u6 u7 u8 u9:Value) (us:Nat->Value),a={ tmps:=#[.string s,undef,.string ⟨#[]⟩,.slice none 0 0,.bool false,u5,u6,u7,u8,u9,us 10,us 11,us 12,us 13,us 14,us 15,us 16,us 17,us 18,us 19,us 20,us 21,us 22,us 23,us 24,us 25,us 26,us 27,us 28,us 29,us 30,us 31,us 32,us 33,us 34,us 35,us 36,us 37,us 38,us 39,us 40,us 41,us 42,us 43,us 44,us 45,us 46,us 47,us 48,us 49,us 50,us 51,us 52,us 53,us 54,us 55,us 56,us 57,us 58,us 59,us 60,us 61,us 62,us 63,us 64,us 65,us 66,us 67,us 68,us 69,us 70,us 71,us 72,us 73,us 74,us 75,us 76,us 77,us 78,us 79,us 80,us 81],defers:=[] }/\Hid (vU s.data.toList=none)/\Below w.heap.size w w'
def GP(s:ByteArray)(w:World)(a:Act)(w':World):Prop:=∃ (ρ nm:ByteArray) (out:List Int) (go:Option Addr) (gc k:Nat) (r n:Int) (us:Nat->Value),a={ tmps:=#[.string s,undef,.string ⟨#[]⟩,.slice none 0 0,.bool false,.int .i32 r,.string nm,.int .i64 n,.slice go k gc,.string ρ,us 10,us 11,us 12,us 13,us 14,us 15,us 16,us 17,us 18,us 19,us 20,us 21,us 22,us 23,us 24,us 25,us 26,us 27,us 28,us 29,us 30,us 31,us 32,us 33,us 34,us 35,us 36,us 37,us 38,us 39,us 40,us 41,us 42,us 43,us 44,us 45,us 46,us 47,us 48,us 49,us 50,us 51,us 52,us 53,us 54,us 55,us 56,us 57,us 58,us 59,us 60,us 61,us 62,us 63,us 64,us 65,us 66,us 67,us 68,us 69,us 70,us 71,us 72,us 73,us 74,us 75,us 76,us 77,us 78,us 79,us 80,us 81],defers:=[] }/\Hid (vU s.data.toList=(EC r ρ.data.toList (out++[n])).map (fun ns=>(nm.data.toList,ns)))/\Hid (k=out.length)/\k<30/\ρ.size<=1048576/\OwnE w' w.heap.size go k gc (gd out)/\Below w.heap.size w w'
def GQ(s:ByteArray)(w:World)(a:Act)(w':World):Prop:=∃ (ρ nm:ByteArray) (out:List Int) (go:Option Addr) (gc k:Nat) (r n:Int) (us:Nat->Value),a={ tmps:=#[.string s,undef,.string ⟨#[]⟩,.slice none 0 0,.bool false,.int .i32 r,.string nm,.int .i64 n,.slice go k gc,.string ρ,us 10,us 11,us 12,us 13,us 14,us 15,us 16,us 17,us 18,us 19,us 20,us 21,us 22,us 23,us 24,us 25,us 26,us 27,us 28,us 29,us 30,us 31,us 32,us 33,us 34,us 35,us 36,us 37,us 38,us 39,us 40,us 41,us 42,us 43,us 44,us 45,us 46,us 47,us 48,us 49,us 50,us 51,us 52,us 53,us 54,us 55,us 56,us 57,us 58,us 59,us 60,us 61,us 62,us 63,us 64,us 65,us 66,us 67,us 68,us 69,us 70,us 71,us 72,us 73,us 74,us 75,us 76,us 77,us 78,us 79,us 80,us 81],defers:=[] }/\Hid (vU s.data.toList=(if 999999999<10*n+(r-48) then none else aZ ρ.data.toList (.within (10*n+(r-48)) out)).map (fun ns=>(nm.data.toList,ns)))/\Hid (k=out.length)/\k<30/\ρ.size<=1048576/\(48<=r/\r<=57)/\(0<=n/\n<=999999999)/\OwnE w' w.heap.size go k gc (gd out)/\Below w.heap.size w w'
theorem uN(s:ByteArray)(hs:s.size<=1048576)(w:World):
  Calls Tryz.prog 91 #[.string s] w fun e w'=>FY w w' e (vU s.data.toList):=by
 obtain⟨T,hT⟩:∃ T,T=vU s.data.toList:=⟨_,rfl⟩
 rw[<-hT];have HT:Hid (T=vU s.data.toList):=hT;clear hT;go_enter Tryz.func91,Tryz.ntmps91;go_wp2
 refine S0 rfl rfl rfl rfl rfl
  (GM s w)
  (GN s w)
  (GO s w)
  (GP s w)
  (GQ s w) R7 ?_ ?_ ?_ ?_ ?_ ?_
 ·-- refused
  rintro a w' ⟨u5,u6,u7,u8,u9,us,rfl,HN,hB⟩;go_wp2;simp only[qI];refine bodyPost_ret (v:=.tuple #[.string ⟨#[]⟩,.slice none 0 0,.bool false]) (by simp[results,Tryz.results91,go_sem]) rfl ?_;exact⟨⟨#[]⟩,[],false,none,0,rfl,.inr ⟨rfl,by rw[HT.out,HN.out]⟩,by simp,OwnE.nil _ _ _,hB⟩
 ·-- behind a number
  rintro H2 a w' ⟨ρ,nm,out,go,gc,k,r,n,us,rfl,HW,HK,hk,hρ,hO,hB⟩;have hO2:OwnE (w'.alloc (.cells #[.int .i64 n] 2)) w.heap.size go k gc (gd (out++[n])):=(hO.next ((Below.refl w'.heap.size w').alloc nl (.cells #[.int .i64 n] 2))).congr (fun j hj=>(oN (by have:=HK.out;omega)).symm);have hBs:=hB.size
  have HG:Hid (gd (out++[n]) k=n):=by
   show _ = _
   rw[HK.out];exact oO out n
  have HL:Hid ((out++[n]).length=k+1):=by
   show _ = _
   rw[HK.out];simp
  by_cases h32:r=32
  ·subst h32
   go_wp2_with (at_builtin;refine wpList_plain rfl fun _ hK=>kM (.tmp 71) (.tmp 73) rfl w.heap.size k gc go (gd (out++[n])) rfl hO2 w'.heap.size rfl (by rw[HG.out];simp[go_sem]) (by omega) (by simp;omega) fun g' gc' w3 hown3 hgrow3 hat3=>hK _ _ ?_)
   have hB3:=(hB.alloc (o:=.cells #[.int .i64 n] 2) hBs).grown hgrow3 (by simp;omega) (fun j hj=>(hO.at hj).1)
   go_step3
   refine⟨⟨ρ,nm,out++[n],some ⟨g',0,none⟩,gc',k+1,_,_,(fun i=>([_,_,_,_,_,_,_,_,_,_,_,_,_,_,_,_,_,_,_,_,_,_,_,_,_,_,_,_,_,_,_,_,_,_,_,_,_,_,_,_,_,_,_,_,_,_,_,_,_,_,_,_,_,_,_,_,_,_,_,_,_,_,_,_,_,_,_,_,_,_,_,_]:List Value).getD (i-10) undef),rfl,?_,HL.out.symm,by omega,hρ,hown3,hB3⟩,by simp[R7,oM]⟩
   show _ = _
   rw[HW.out];rfl
  by_cases h1:r = -1
  ·subst h1
   go_wp2_with (at_builtin;refine wpList_plain rfl fun _ hK=>kM (.tmp 71) (.tmp 73) rfl w.heap.size k gc go (gd (out++[n])) rfl hO2 w'.heap.size rfl (by rw[HG.out];simp[go_sem]) (by omega) (by simp;omega) fun g' gc' w3 hown3 hgrow3 hat3=>hK _ _ ?_)
   have hB3:=(hB.alloc (o:=.cells #[.int .i64 n] 2) hBs).grown hgrow3 (by simp;omega) (fun j hj=>(hO.at hj).1);simp only[qI];refine bodyPost_ret (v:=.tuple #[.string nm,.slice (some ⟨g',0,none⟩) (k+1) gc',.bool true]) (by simp[results,Tryz.results91,go_sem]) rfl ?_;exact⟨nm,out++[n],true,some ⟨g',0,none⟩,gc',by rw[HL.out],.inl ⟨rfl,by rw[HT.out,HW.out];rfl⟩,by rw[HL.out];omega,by rw[HL.out];exact hown3,hB3⟩
  have h32b:(r==32)=false:=by simpa using h32
  have h1b:(r == -1)=false:=by simpa using h1
  have HNO:Hid (vU s.data.toList=none):=by
   show _ = _
   rw[HW.out];simp[EC,h32,h1]
  clear h32 h1
  go_wp2_with (at_builtin;refine wpList_plain rfl fun _ hK=>kM (.tmp 71) (.tmp 73) rfl w.heap.size k gc go (gd (out++[n])) rfl hO2 w'.heap.size rfl (by rw[HG.out];simp[go_sem]) (by omega) (by simp;omega) fun g' gc' w3 hown3 hgrow3 hat3=>hK _ _ ?_)
  have hB3:=(hB.alloc (o:=.cells #[.int .i64 n] 2) hBs).grown hgrow3 (by simp;omega) (fun j hj=>(hO.at hj).1);refine wp_label ?_
  rename_i hKK
  refine hKK _ _ (yK (Nat.zero_le _) (H2 _ _ ⟨_,_,_,_,_,(fun i=>([_,_,_,_,_,_,_,_,_,_,_,_,_,_,_,_,_,_,_,_,_,_,_,_,_,_,_,_,_,_,_,_,_,_,_,_,_,_,_,_,_,_,_,_,_,_,_,_,_,_,_,_,_,_,_,_,_,_,_,_,_,_,_,_,_,_,_,_,_,_,_,_]:List Value).getD (i-10) undef),rfl,HNO,hB3⟩))
 ·-- within a number
  rintro H3 a w' ⟨ρ,nm,out,go,gc,k,r,n,us,rfl,HW,HK,hk,hρ,⟨hr1,hr2⟩,⟨hn1,hn2⟩,hO,hB⟩
  by_cases hbig:999999999<10*n+(r-48)
  ·go_wp2
   go_step3
   refine⟨⟨_,_,_,_,_,(fun i=>([_,_,_,_,_,_,_,_,_,_,_,_,_,_,_,_,_,_,_,_,_,_,_,_,_,_,_,_,_,_,_,_,_,_,_,_,_,_,_,_,_,_,_,_,_,_,_,_,_,_,_,_,_,_,_,_,_,_,_,_,_,_,_,_,_,_,_,_,_,_,_,_]:List Value).getD (i-10) undef),rfl,?_,hB⟩,by simp[R7,oM]⟩
   show _ = _
   rw[HW.out,if_pos hbig];rfl
  go_wp2_with fail
  refine (kF ρ hρ _).mono ?_;rintro e w1 ⟨r1,ρ1,rfl,hc,hb1⟩;have hcb:=hc.bd;have hcl:=hc.len;have hO1:=hO.next hb1;have hB1:=aF hB nl hb1;have hρ1:ρ1.size ≤ ρ.size:=by simpa using hcl.1
  cases hd:zW r1
  ·have hnd:¬ (48<=r1/\r1<=57):=fun e=>by simp[zW,e]at hd
   go_wp2_with (go_at_call 113;refine (kG _ _).mono ?_;rintro e w2 ⟨rfl,hq⟩;have hq':=hq.symm;subst hq';clear hq;rw[hd])
   refine wp_label ?_
   rename_i hKK
   refine hKK _ _ (yK ?_ (H3 _ _ ⟨ρ1,nm,out,go,gc,k,r1,_,(fun i=>([_,_,_,_,_,_,_,_,_,_,_,_,_,_,_,_,_,_,_,_,_,_,_,_,_,_,_,_,_,_,_,_,_,_,_,_,_,_,_,_,_,_,_,_,_,_,_,_,_,_,_,_,_,_,_,_,_,_,_,_,_,_,_,_,_,_,_,_,_,_,_,_]:List Value).getD (i-10) undef),rfl,?_,HK,hk,by omega,hO1,hB1⟩))
   ·simp[R7,oM];omega
   ·show _ = _
    rw[HW.out,if_neg (by omega),(rX hc).2 hnd]
  ·have hnd:48<=r1/\r1<=57:=by simpa[zW] using hd
   have hlt:ρ1.size < ρ.size:=by simpa using hcl.2 (by omega)
   go_wp2_with (go_at_call 113;refine (kG _ _).mono ?_;rintro e w2 ⟨rfl,hq⟩;have hq':=hq.symm;subst hq';clear hq;rw[hd])
   go_step3
   refine⟨⟨ρ1,nm,out,go,gc,k,r1,_,(fun i=>([_,_,_,_,_,_,_,_,_,_,_,_,_,_,_,_,_,_,_,_,_,_,_,_,_,_,_,_,_,_,_,_,_,_,_,_,_,_,_,_,_,_,_,_,_,_,_,_,_,_,_,_,_,_,_,_,_,_,_,_,_,_,_,_,_,_,_,_,_,_,_,_]:List Value).getD (i-10) undef),rfl,?_,HK,hk,by omega,hnd,⟨?_,?_⟩,hO1,hB1⟩,by simp[R7,oM];omega⟩
   ·show _ = _
    rw[HW.out,if_neg (by omega),(rX hc).1 hnd]
   ·omega
   ·omega
 ·-- ahead of a number
  rintro H4 a w' ⟨ρ,nm,out,go,gc,k,u5,u7,us,rfl,HW,HK,hk,hρ,hO,hB⟩
  by_cases h30:k=30
  ·subst h30
   go_wp2
   go_step3
   refine⟨⟨_,_,_,_,_,(fun i=>([_,_,_,_,_,_,_,_,_,_,_,_,_,_,_,_,_,_,_,_,_,_,_,_,_,_,_,_,_,_,_,_,_,_,_,_,_,_,_,_,_,_,_,_,_,_,_,_,_,_,_,_,_,_,_,_,_,_,_,_,_,_,_,_,_,_,_,_,_,_,_,_]:List Value).getD (i-10) undef),rfl,?_,hB⟩,by simp[R7,oM]⟩
   show _ = _
   have h:=HK.out;rw[HW.out,I4 h.symm];rfl
  have h30':((k:Int)==30)=false:=by simp;omega
  have h30i:¬ (k:Int)=30:=by omega
  have ho:out.length≠30:=fun e=>h30 (by rw[HK.out];exact e)
  have HO:Hid (out.length≠30):=ho;clear ho h30
  go_wp2_with fail
  refine (kF ρ hρ _).mono ?_;rintro e w1 ⟨r1,ρ1,rfl,hc,hb1⟩;have hcb:=hc.bd;have hcl:=hc.len;have hO1:=hO.next hb1;have hB1:=aF hB nl hb1;have hρ1:ρ1.size ≤ ρ.size:=by simpa using hcl.1
  by_cases h48:r1=48
  ·subst h48
   have hlt:ρ1.size < ρ.size:=by simpa using hcl.2 (by omega)
   go_wp2_with fail
   refine (kF ρ1 (by omega) _).mono ?_;rintro e w2 ⟨r2,ρ2,rfl,hc2,hb2⟩;have hcl2:=hc2.len;have hρ2:ρ2.size ≤ ρ1.size:=by simpa using hcl2.1
   go_wp2
   go_step3
   refine⟨⟨ρ2,nm,out,go,gc,k,r2,0,(fun i=>([_,_,_,_,_,_,_,_,_,_,_,_,_,_,_,_,_,_,_,_,_,_,_,_,_,_,_,_,_,_,_,_,_,_,_,_,_,_,_,_,_,_,_,_,_,_,_,_,_,_,_,_,_,_,_,_,_,_,_,_,_,_,_,_,_,_,_,_,_,_,_,_]:List Value).getD (i-10) undef),rfl,?_,HK,by omega,by omega,hO1.next hb2,aF hB1 nl hb2⟩,by simp[R7,oM];omega⟩
   show _ = _
   rw[HW.out,(pX hc HO.out).1 rfl,C6 hc2]
  have h48b:(r1==48)=false:=by simpa using h48
  cases hd:zW r1
  ·have hnd:¬ (48<=r1/\r1<=57):=fun e=>by simp[zW,e]at hd
   go_wp2_with (go_at_call 113;refine (kG _ _).mono ?_;rintro e w2 ⟨rfl,hq⟩;have hq':=hq.symm;subst hq';clear hq;rw[hd])
   go_step3
   refine⟨⟨_,_,_,_,_,(fun i=>([_,_,_,_,_,_,_,_,_,_,_,_,_,_,_,_,_,_,_,_,_,_,_,_,_,_,_,_,_,_,_,_,_,_,_,_,_,_,_,_,_,_,_,_,_,_,_,_,_,_,_,_,_,_,_,_,_,_,_,_,_,_,_,_,_,_,_,_,_,_,_,_]:List Value).getD (i-10) undef),rfl,?_,hB1⟩,by simp[R7,oM]⟩
   show _ = _
   rw[HW.out,(pX hc HO.out).2.2 hnd];rfl
  ·have hnd:48<=r1/\r1<=57:=by simpa[zW] using hd
   have hlt:ρ1.size < ρ.size:=by simpa using hcl.2 (by omega)
   go_wp2_with (go_at_call 113;refine (kG _ _).mono ?_;rintro e w2 ⟨rfl,hq⟩;have hq':=hq.symm;subst hq';clear hq;rw[hd])
   refine wp_label ?_
   rename_i hKK
   refine hKK _ _ (yK ?_ (H4 _ _ ⟨ρ1,nm,out,go,gc,k,r1,0,(fun i=>([_,_,_,_,_,_,_,_,_,_,_,_,_,_,_,_,_,_,_,_,_,_,_,_,_,_,_,_,_,_,_,_,_,_,_,_,_,_,_,_,_,_,_,_,_,_,_,_,_,_,_,_,_,_,_,_,_,_,_,_,_,_,_,_,_,_,_,_,_,_,_,_]:List Value).getD (i-10) undef),rfl,?_,HK,by omega,by omega,hnd,⟨by omega,by omega⟩,hO1,hB1⟩))
   ·simp[R7,oM];omega
   ·show _ = _
    rw[HW.out,(pX hc HO.out).2.1 ⟨by omega,hnd.2⟩,if_neg (by omega)];simp
 ·-- in the name
  rintro a w' ⟨ρ,u5,us,rfl,HW,hρ,hB⟩
  go_wp2_with fail
  refine (kF ρ hρ _).mono ?_;rintro e w1 ⟨r1,ρ1,rfl,hc,hb1⟩;have hcb:=hc.bd;have hcl:=hc.len;have hB1:=aF hB nl hb1;have hρ1:ρ1.size ≤ ρ.size:=by simpa using hcl.1
  by_cases hl:97<=r1/\r1<=122
  ·obtain⟨hl1,hl2⟩:=hl
   have hlt:ρ1.size < ρ.size:=by simpa using hcl.2 (by omega)
   go_wp2
   go_step3
   exact⟨⟨ρ1,_,(fun i=>([_,_,_,_,_,_,_,_,_,_,_,_,_,_,_,_,_,_,_,_,_,_,_,_,_,_,_,_,_,_,_,_,_,_,_,_,_,_,_,_,_,_,_,_,_,_,_,_,_,_,_,_,_,_,_,_,_,_,_,_,_,_,_,_,_,_,_,_,_,_,_,_]:List Value).getD (i-10) undef),rfl,yT HW.out hc hl1 hl2,by omega,hB1⟩,by simp[R7,oM];omega⟩
  have hor:r1<97\/(97<=r1/\122<r1):=by omega
  by_cases h32:r1=32
  ·subst h32
   have hlt:ρ1.size < ρ.size:=by simpa using hcl.2 (by omega)
   obtain⟨hb,hbl⟩:=C4 HW.out hc;have HBL:Hid (vU s.data.toList=(aZ ρ1.data.toList (.ahead [])).map (fun ns=>(s.data.toList.take (s.data.toList.length - ρ1.data.toList.length-1),ns))):=hb;simp only[Array.length_toList,ByteArray.size_data]at hbl;clear hb;have hb1':(0:Int)<=(s.size:Int)-(ρ1.size:Int)-1:=by omega
   have hb2':(s.size:Int)-(ρ1.size:Int)-1<=(s.size:Int):=by omega
   clear hor hl;go_wp2
   go_step3
   refine⟨⟨ρ1,_,[],none,0,0,_,_,(fun i=>([_,_,_,_,_,_,_,_,_,_,_,_,_,_,_,_,_,_,_,_,_,_,_,_,_,_,_,_,_,_,_,_,_,_,_,_,_,_,_,_,_,_,_,_,_,_,_,_,_,_,_,_,_,_,_,_,_,_,_,_,_,_,_,_,_,_,_,_,_,_,_,_]:List Value).getD (i-10) undef),rfl,?_,rfl,by omega,by omega,OwnE.nil _ _ _,hB1⟩,by simp[R7,oM];omega⟩
   show _ = _
   rw[HBL.out,gR,List.drop_zero]
   congr 3
  have h32b:(r1==32)=false:=by simpa using h32
  by_cases h1:r1 = -1
  ·subst h1
   have hend:=T1 HW.out hc
   have HE:Hid (T=some (s.data.toList,[])):=by
    show _ = _
    rw[HT.out,hend]
   clear hend hor hl;go_wp2;simp only[qI];refine bodyPost_ret (v:=.tuple #[.string s,.slice none 0 0,.bool true]) (by simp[results,Tryz.results91,go_sem]) rfl ?_;exact⟨s,[],true,none,0,rfl,.inl ⟨rfl,HE.out⟩,by simp,OwnE.nil _ _ _,hB1⟩
  have h1b:(r1 == -1)=false:=by simpa using h1
  have HNO:Hid (vU s.data.toList=none):=C5 HW.out hc hl h32 h1;clear hl h32 h1;rcases hor with hl1|⟨hl1,hl2⟩
  ·go_wp2
   go_step3
   exact⟨⟨_,_,_,_,_,(fun i=>([_,_,_,_,_,_,_,_,_,_,_,_,_,_,_,_,_,_,_,_,_,_,_,_,_,_,_,_,_,_,_,_,_,_,_,_,_,_,_,_,_,_,_,_,_,_,_,_,_,_,_,_,_,_,_,_,_,_,_,_,_,_,_,_,_,_,_,_,_,_,_,_]:List Value).getD (i-10) undef),rfl,HNO,hB1⟩,by simp[R7,oM]⟩
  ·go_wp2
   go_step3
   exact⟨⟨_,_,_,_,_,(fun i=>([_,_,_,_,_,_,_,_,_,_,_,_,_,_,_,_,_,_,_,_,_,_,_,_,_,_,_,_,_,_,_,_,_,_,_,_,_,_,_,_,_,_,_,_,_,_,_,_,_,_,_,_,_,_,_,_,_,_,_,_,_,_,_,_,_,_,_,_,_,_,_,_]:List Value).getD (i-10) undef),rfl,HNO,hB1⟩,by simp[R7,oM]⟩
 ·intro H0
  go_wp2;refine wp_label ?_
  rename_i hKK
  refine hKK _ _ (CG (H0 _ _ ⟨s,_,(fun i=>([_,_,_,_,_,_,_,_,_,_,_,_,_,_,_,_,_,_,_,_,_,_,_,_,_,_,_,_,_,_,_,_,_,_,_,_,_,_,_,_,_,_,_,_,_,_,_,_,_,_,_,_,_,_,_,_,_,_,_,_,_,_,_,_,_,_,_,_,_,_,_,_]:List Value).getD (i-10) undef),rfl,⟨[],rfl,rfl⟩,hs,Below.refl _ _⟩))
end
section
open Go.ChangeShapes Go.WideShapes Go.ChangeAt Go.RowKit Go.Maps

end
section
open Go.RowKit Go.Maps
def Has(w:World)(b n:Nat)(f:Nat->Int):Prop:=∃ cur:Array Value,w.heap[b]?=some (.cells cur 115 (0,0))/\n*3<=cur.size/\∀ j,j<n*3->cur[j]?=some (.int .i64 (f j))
theorem Has.of_own{w:World}{b n:Nat}{f:Nat->Int}(h:Own w b n f):Has w b n f:=by
 obtain⟨c,hb,hn,hc⟩:=h;exact⟨c,hb,by omega,hc⟩
theorem Has.cell{w:World}{b n:Nat}{f:Nat->Int}(h:Has w b n f){j:Nat}(hj:j<n*3):w.cell? ⟨b,j,none⟩=some (.int .i64 (f j)):=by
 obtain⟨c,hb,_,hc⟩:=h;simp[World.cell?,hb,hc j hj]
theorem Has.frozen{w:World}{b n:Nat}{f:Nat->Int}(h:Has w b n f)(j:Nat):w.frozen? ⟨b,j,none⟩=false:=by
 obtain⟨c,hb,_,_⟩:=h;simp[World.frozen?,hb]
theorem Has.lt{w:World}{b n:Nat}{f:Nat->Int}(h:Has w b n f):b<w.heap.size:=by
 obtain⟨c,hb,_,_⟩:=h;exact (Array.getElem?_eq_some_iff.1 hb).1
theorem Has.of_block{w w':World}{b n:Nat}{f:Nat->Int}(h:Has w b n f)(e:w'.heap[b]?=w.heap[b]?):Has w' b n f:=by
 obtain⟨c,hb,hn,hc⟩:=h;exact⟨c,e.trans hb,hn,hc⟩
theorem Has.row{w:World}{b n:Nat}{F T G:Nat->Int}(h:Has w b n (ar F T G)):Row w (some ⟨b,0,none⟩) n F T G:=fun k hk=>by
 refine⟨b,0,rfl,?_,?_,?_⟩
 ·have:=h.cell (j:=k*3) (by omega);rw[FE]at this;simpa using this
 ·have:=h.cell (j:=k*3+1) (by omega);rw[FF]at this;simpa using this
 ·have:=h.cell (j:=k*3+2) (by omega);rw[FG]at this;simpa using this
theorem Has.below{w w':World}{b n B:Nat}{f:Nat->Int}(h:Has w b n f)(hb:Below B w w')(hB:b<B):Has w' b n f:=h.of_block (hb.block b hB)
theorem yX{w w':World}{row:Option Nat}(h:Below w.heap.size w w'):w.grownBy w' row:=⟨h.os,h.tape,h.output,h.size,fun k hk _=>h.block k hk⟩
def OwnS(w:World)(B:Nat)(ao:Option Addr)(n:Nat)(f:Nat->Int):Prop:=∀ k,k<n->∃ b,ao=some ⟨b,0,none⟩/\B<=b/\Has w b n f
theorem OwnS.row{w:World}{B n:Nat}{ao:Option Addr}{F T G:Nat->Int}(h:OwnS w B ao n (ar F T G)):Row w ao n F T G:=fun k hk=>by
 obtain⟨b,e,_,hh⟩:=h k hk;subst e;exact hh.row k hk
end
section
open Go.RowKit Go.Maps
attribute [local go_sem ↓] Go.wp_at_zero Go.wp_at_succ
def cellsOf(f:Nat->Int)(m:Nat):List Value:=(List.range m).map fun j=>.int .i64 (f j)
end
section
open Go.RowKit Go.Maps
def OwnA(w:World)(base:Nat)(go:Option Addr)(n cap:Nat)(f:Nat->Int):Prop:=w.ownsRow base 115 3 (.slice go n cap) n (cellsOf f (n*3))
theorem OwnA.nil(w:World)(base:Nat)(f:Nat->Int):OwnA w base none 0 0 f:=⟨by simp[cellsOf],.inl ⟨rfl,rfl⟩⟩
theorem OwnA.at{w:World}{base n cap x:Nat}{go:Option Addr}{f:Nat->Int}(h:OwnA w base go n cap f)(e:(Value.slice go n cap).ownBlock=some x):base<=x/\x<w.heap.size:=World.ownsRow.lt h x e
theorem OwnA.of_block{w w':World}{base n cap:Nat}{go:Option Addr}{f:Nat->Int}(h:OwnA w base go n cap f)(e:∀ x,(Value.slice go n cap).ownBlock=some x->w'.heap[x]?=w.heap[x]?):OwnA w' base go n cap f:=by
 refine⟨h.1,?_⟩;rcases h.2 with hn|⟨g',cap',cur,hv,hb',hgg,rest⟩
 ·exact .inl hn
 ·have e2:=e g' (by rw[hv];rfl)
  exact .inr ⟨g',cap',cur,hv,hb',e2.trans hgg,rest⟩
theorem OwnA.next{w w':World}{base n cap:Nat}{go:Option Addr}{f:Nat->Int}(h:OwnA w base go n cap f)(hb:Below w.heap.size w w'):OwnA w' base go n cap f:=h.of_block (fun x e=>hb.block x (h.at e).2)
theorem OwnA.grown{w w':World}{base n cap:Nat}{go:Option Addr}{f:Nat->Int}{row:Option Nat}(h:OwnA w base go n cap f)(hg:w.grownBy w' row)(hne:∀ x,(Value.slice go n cap).ownBlock=some x->row≠some x):OwnA w' base go n cap f:=h.of_block (fun x e=>hg.block x (h.at e).2 (fun q=>hne x e q.symm))
theorem OwnA.owns{w:World}{base n cap:Nat}{go:Option Addr}{f:Nat->Int}(h:OwnA w base go n cap f):OwnS w base go n f:=fun k hk=>by
 obtain⟨hl,h0|⟨g',cap',cur,hv,hb,hh,h1,h2,h3,h4⟩⟩:=h
 ·omega
 ·simp at hv
  obtain⟨rfl,rfl⟩:=hv;refine⟨g',rfl,hb,cur,hh,by omega,fun j hj=>?_⟩;have:(cur.toList.take (n*3))[j]?=(cellsOf f (n*3))[j]?:=by rw[h4]
  rw[List.getElem?_take_of_lt hj,cellsOf,List.getElem?_map,List.getElem?_range hj]at this;simpa using this
theorem F1(f:Nat->Int)(n:Nat):cellsOf f (n*3)++[.int .i64 (f (n*3)),.int .i64 (f (n*3+1)),.int .i64 (f (n*3+2))]=cellsOf f ((n+1)*3):=by
 have e:(n+1)*3=n*3+1+1+1:=by omega
 rw[e];simp[cellsOf,List.range_succ]
theorem P4{w:World}{B:Nat}{x y z:Int}{t:TypeId}(hb:w.heap[B]?=some (.cells #[.int .i64 x,.int .i64 y,.int .i64 z] t (0,0))):∀ j u,[Value.int .i64 x,.int .i64 y,.int .i64 z][j]?=some u->w.cell? ((⟨B,0,none⟩:Addr).add j)=some u:=
 World.news_of_block hb
theorem V1(x y z:Int):∀ u∈[Value.int .i64 x,.int .i64 y,.int .i64 z],u.oneCell'=true:=fun u hu=>by
 simp at hu;rcases hu with rfl|rfl|rfl<;>rfl
theorem lX{o:Oper}{a:Act}{w:World}{K:Act->World->Prop}{Q:Exit->Act->World->Prop}(s x:Operand)
  (ho:o.op=.call { callee:=.builtin .append,args:=#[s,x],argTypes:=#[76,76] }) (base k gc:Nat) (go:Option Addr) (f:Nat->Int) (hs:a.eval s=.slice go k gc) (hown:OwnA w base go k gc f) (B:Nat) (hx:a.eval x=.slice (some ⟨B,0,none⟩) 1 1)
  (hB:w.heap[B]?=some (.cells #[.int .i64 (f (k*3)),.int .i64 (f (k*3+1)),.int .i64 (f (k*3+2))] 115 (0,0))) (hk:k<=10000000) (hbase:base<=w.heap.size)
  (h:∀ g' gc' w',OwnA w' base (some ⟨g',0,none⟩) (k+1) gc' f->w.grownBy w' (Value.slice go k gc).ownBlock->((Value.slice go k gc).ownBlock=some g'\/g'=w.heap.size)->K (a.put o.dst (.slice (some ⟨g',0,none⟩) (k+1) gc')) w'):o.wp Tryz.prog a w K Q:=by
 obtain⟨i0,hi0,hz0,hz1,hz2⟩:=info_parts Tryz.infoArc;refine wp_append_lies w s x 76 ho base 115 i0 _ 3 24 Tryz.underlying76 hi0 hz0 hz1 hz2 rfl (by omega) _ k (cellsOf f (k*3)) hs hown ⟨B,0,none⟩ 1 1 [.int .i64 (f (k*3)),.int .i64 (f (k*3+1)),.int .i64 (f (k*3+2))] hx rfl (P4 hB) (V1 _ _ _) (by omega) (by unfold maxLen;omega) (by omega) hbase w.heap.size rfl ?_;intro g' gc' w' hown' hgrow hat _;rw[F1]at hown';exact h g' gc' w' hown' hgrow hat
def P5(r:Option (Int × List Int)):Int:=match r with|some (K,_)=>K|none=>0
def oD(r:Option (Int × List Int)):List Int:=match r with|some (K,ns)=>if K=2 then ns else []|none=>[]
def qA(r:Option (Int × List Int))(j:Nat):Int:=match r with|some (K,ns)=>if K=3 then ns.getD j 0 else 0|none=>0
def eH(ns:List Int):Nat->Int:=ar (nU ns 0) (nU ns 1) (nU ns 2)
def sO(w w':World)(e:Ending)(r:Option (Int × List Int)):Prop:=
 ∃ ao cap,e=.returned (.tuple #[.agg #[.int .i64 (P5 r),.slice ao ((oD r).length / 3) cap,.int .i64 (qA r 0),.int .i64 (qA r 1)],.bool r.isSome])/\OwnS w' w.heap.size ao ((oD r).length / 3) (eH (oD r))/\Below w.heap.size w w'
def c4(v0 v1 v2 v3:Value)(j:Nat):Value:=if j=0 then v0 else if j=1 then v1 else if j=2 then v2 else v3
theorem sP(w:World)(v0 v1 v2 v3:Value)(t:TypeId):VHas (w.alloc (.cells #[v0,v1,v2,v3] t)) w.heap.size t 4 (c4 v0 v1 v2 v3):=
 ⟨_,Go.Deep.blk_alloc_new _ _,by simp,fun j hj=>by
  have:j=0\/j=1\/j=2\/j=3:=by omega
  rcases this with rfl|rfl|rfl|rfl<;>rfl⟩
theorem xJ(w:World)(v0 v1 v2 v3 u0 u1 u2 u3:Value)(t:TypeId):
  VHas ((w.alloc (.cells #[v0,v1,v2,v3] t)).alloc (.cells #[u0,u1,u2,u3] t)) w.heap.size t 4 (c4 v0 v1 v2 v3)/\VHas ((w.alloc (.cells #[v0,v1,v2,v3] t)).alloc (.cells #[u0,u1,u2,u3] t)) (w.heap.size+1) t 4 (c4 u0 u1 u2 u3) ∧
  Below w.heap.size w ((w.alloc (.cells #[v0,v1,v2,v3] t)).alloc (.cells #[u0,u1,u2,u3] t))/\((w.alloc (.cells #[v0,v1,v2,v3] t)).alloc (.cells #[u0,u1,u2,u3] t)).heap.size=w.heap.size+2:=
 ⟨(sP w v0 v1 v2 v3 t).alloc _,by simpa only[World.size_alloc] using sP (w.alloc (.cells #[v0,v1,v2,v3] t)) u0 u1 u2 u3 t,((Below.refl _ _).alloc nl _).alloc (by simp) _,by simp⟩
theorem xK{W:World}{b:Nat}{t:TypeId}{f:Nat->Value}(h:VHas W b t 4 f)(v0 v1 v2 v3:Value):
  ((((W.setCell ⟨b,0,none⟩ v0).setCell ⟨b,1,none⟩ v1).setCell ⟨b,2,none⟩ v2).setCell ⟨b,3,none⟩ v3).cell? ⟨b,0,none⟩=some v0/\((((W.setCell ⟨b,0,none⟩ v0).setCell ⟨b,1,none⟩ v1).setCell ⟨b,2,none⟩ v2).setCell ⟨b,3,none⟩ v3).cell? ⟨b,1,none⟩=some v1 ∧
  ((((W.setCell ⟨b,0,none⟩ v0).setCell ⟨b,1,none⟩ v1).setCell ⟨b,2,none⟩ v2).setCell ⟨b,3,none⟩ v3).cell? ⟨b,2,none⟩=some v2/\((((W.setCell ⟨b,0,none⟩ v0).setCell ⟨b,1,none⟩ v1).setCell ⟨b,2,none⟩ v2).setCell ⟨b,3,none⟩ v3).cell? ⟨b,3,none⟩=some v3:=by
 have u:=(((h.set 0 v0).set 1 v1).set 2 v2).set 3 v3;exact⟨u.cell (j:=0) (by omega),u.cell (j:=1) (by omega),u.cell (j:=2) (by omega),u.cell (j:=3) (by omega)⟩
theorem bX{w W:World}{b:Nat}(h:Below w.heap.size w W)(hb:w.heap.size<=b)(v0 v1 v2 v3:Value):Below w.heap.size w ((((W.setCell ⟨b,0,none⟩ v0).setCell ⟨b,1,none⟩ v1).setCell ⟨b,2,none⟩ v2).setCell ⟨b,3,none⟩ v3):=
 (((h.setCell (p:=⟨b,0,none⟩) hb v0).setCell (p:=⟨b,1,none⟩) hb v1).setCell (p:=⟨b,2,none⟩) hb v2).setCell (p:=⟨b,3,none⟩) hb v3
theorem P6(W:World){b x:Nat}(h:x≠b)(v0 v1 v2 v3:Value):((((W.setCell ⟨b,0,none⟩ v0).setCell ⟨b,1,none⟩ v1).setCell ⟨b,2,none⟩ v2).setCell ⟨b,3,none⟩ v3).heap[x]?=W.heap[x]?:=by
 rw[Below.heap_setCell _ _ _ _ (by simpa using h),Below.heap_setCell _ _ _ _ (by simpa using h),Below.heap_setCell _ _ _ _ (by simpa using h),Below.heap_setCell _ _ _ _ (by simpa using h)]
theorem OwnS.of_st4{W:World}{B b n:Nat}{ao:Option Addr}{f:Nat->Int}(h:OwnS W B ao n f)(hb:0<n->∀ a,ao=some a->a.block≠b)(v0 v1 v2 v3:Value):OwnS ((((W.setCell ⟨b,0,none⟩ v0).setCell ⟨b,1,none⟩ v1).setCell ⟨b,2,none⟩ v2).setCell ⟨b,3,none⟩ v3) B ao n f:=fun k hk=>by
 obtain⟨g,e,hB,hh⟩:=h k hk;exact⟨g,e,hB,hh.of_block (P6 W (hb (by omega) _ e) v0 v1 v2 v3)⟩
theorem OwnS.nxt{W W':World}{B n:Nat}{ao:Option Addr}{f:Nat->Int}(h:OwnS W B ao n f)(hb:Below W.heap.size W W'):OwnS W' B ao n f:=fun k hk=>by
 obtain⟨g,e,hB,hh⟩:=h k hk;exact⟨g,e,hB,hh.below hb hh.lt⟩
theorem OwnS.from{W:World}{B B' n:Nat}{ao:Option Addr}{f:Nat->Int}(h:OwnS W B ao n f)(hb:B'<=B):OwnS W B' ao n f:=fun k hk=>by
 obtain⟨g,e,hB,hh⟩:=h k hk;exact⟨g,e,by omega,hh⟩
theorem cQ(W:World)(B:Nat)(ao:Option Addr)(f:Nat->Int):OwnS W B ao 0 f:=fun k hk=>by omega
theorem V2{w w':World}{x y:Int}(hB:Below w.heap.size w w'):sO w w' (.returned (.tuple #[.agg #[.int .i64 3,.slice none 0 0,.int .i64 x,.int .i64 y],.bool true])) (some (3,[x,y])):=
 ⟨none,0,by simp[P5,oD,qA],by simp[oD];exact cQ _ _ _ _,hB⟩
theorem F2{w w':World}{ns:List Int}{ao:Option Addr}{n cap:Nat}(hn:ns.length / 3=n)(hO:OwnS w' w.heap.size ao n (eH ns))(hB:Below w.heap.size w w'):sO w w' (.returned (.tuple #[.agg #[.int .i64 2,.slice ao n cap,.int .i64 0,.int .i64 0],.bool true])) (some (2,ns)):=
 ⟨ao,cap,by simp[P5,oD,qA,hn],by simp[oD,hn];exact hO,hB⟩
theorem EN(ns:List Int)(k:Nat):eH ns (k*3)=ns.getD (3*k) 0:=by unfold eH;rw[FE];rfl
theorem EP(ns:List Int)(k:Nat):eH ns (k*3+1)=ns.getD (3*k+1) 0:=by unfold eH;rw[FF];rfl
theorem EQ(ns:List Int)(k:Nat):eH ns (k*3+2)=ns.getD (3*k+2) 0:=by unfold eH;rw[FG];rfl
end
section
open Go.RowKit Go.Maps
attribute [local go_sem ↓] Go.wp_at_zero Go.wp_at_succ
theorem O1{w:World}{b n k:Nat}{ns:List Int}(h:Own w b n (upto (eH ns) (k*3)))(hk:k<n):
  Own (((w.setCell ⟨b,k*3,none⟩ (.int .i64 (eH ns (k*3)))).setCell ⟨b,k*3+1,none⟩ (.int .i64 (eH ns (k*3+1)))).setCell ⟨b,k*3+2,none⟩ (.int .i64 (eH ns (k*3+2)))) b n (upto (eH ns) ((k+1)*3)):=by
 unfold eH at h ⊢;rw[FE,FF,FG];exact h.three hk
theorem D8(go:Option Addr)(gc B:Nat)(ns:List Int)(n m:Nat)(hn:n=ns.length)(hm:n / 3=m)(h30:n<=1000)(w:World)(hO:OwnE w B go n gc (gd ns)):
  Calls Tryz.prog 114 #[.slice go n gc] w fun e w'=>e=.returned (.slice (some ⟨w.heap.size,0,none⟩) m m)/\Own w' w.heap.size m (eH ns)/\Below w.heap.size w w':=by
 have hq:(n:Int) / 3=(m:Int):=by omega
 have HM:Hid (n / 3=m):=hm;have HN:Hid (n=ns.length):=hn;have hm9:m<=1048576:=by omega
 clear hm hn;go_enter Tryz.func114,Tryz.ntmps114;have hmk:=O0 m hm9;go_wp2;clear hmk hq;have hO0:Own (w.alloc (.cells (madeCells #[.int .i64 0,.int .i64 0,.int .i64 0] (m*3)) 115)) w.heap.size m (upto (eH ns) (0*3)):=by simpa using T5 w m (eH ns)
 go_loopw [11] (fun x wr=>∃ k:Nat,k<=m/\x=.int .i64 k/\Own wr w.heap.size m (upto (eH ns) (k*3))/\Below w.heap.size w wr) (fun x _=>m-(intOf x).toNat)
 case atStart=>exact⟨0,Nat.zero_le _,rfl,hO0,(Below.refl _ _).alloc nl _⟩
 case round=>
  clear hO0;obtain⟨k,hk,rfl,hown,hbel⟩:=hrel
  by_cases hlt:k<m
  ·have hlt':(k:Int)<(m:Int):=by omega
   have h3:3*k+2<n:=by have:=HM.out;omega
   obtain⟨g,rfl,hgB,hI⟩:=(hO.next (Below.refl _ w)).has (by omega);have hgl:g<w.heap.size:=hI.lt;have hI2:=hI.below hbel hgl;have c0:wr.cell? ⟨g,3*k,none⟩=some (.int .i64 (eH ns (k*3))):=by rw[EN];exact hI2.cell (by omega)
   have c1:wr.cell? ⟨g,3*k+1,none⟩=some (.int .i64 (eH ns (k*3+1))):=by rw[EP];exact hI2.cell (by omega)
   have c2:wr.cell? ⟨g,3*k+2,none⟩=some (.int .i64 (eH ns (k*3+2))):=by rw[EQ];exact hI2.cell (by omega)
   have hq0:IntKind.i64.wrap (3*(k:Int))=3*(k:Int):=wi
   have hq1:IntKind.i64.wrap (3*(k:Int)+1)=3*(k:Int)+1:=wi
   have hq2:IntKind.i64.wrap (3*(k:Int)+2)=3*(k:Int)+2:=wi
   have hp0:(0:Int)<=3*(k:Int):=by omega
   have hp1:(0:Int)<=3*(k:Int)+1:=by omega
   have hp2:(0:Int)<=3*(k:Int)+2:=by omega
   have hl0:3*(k:Int)<(n:Int):=by omega
   have hl1:3*(k:Int)+1<(n:Int):=by omega
   have hl2:3*(k:Int)+2<(n:Int):=by omega
   have hn0:(3*(k:Int)).toNat=3*k:=by omega
   have hn1:(3*(k:Int)+1).toNat=3*k+1:=by omega
   have hn2:(3*(k:Int)+2).toNat=3*k+2:=by omega
   have hk0:(0:Int)<=(k:Int):=by omega
   have d0:=World.rowIs.cell hown (i:=k*3) (by omega);have d1:=World.rowIs.cell hown (i:=k*3+1) (by omega);have d2:=World.rowIs.cell hown (i:=k*3+2) (by omega);have z0:∀ j,wr.frozen? ⟨w.heap.size,j,none⟩=false:=fun j=>(Has.of_own hown).frozen j
   have hne:w.heap.size≠g:=by omega
   go_wp2_with fail
   go_region_held3 (fun X=>X.cell? ⟨g,3*k,none⟩=some (.int .i64 (eH ns (k*3)))/\X.cell? ⟨g,3*k+1,none⟩=some (.int .i64 (eH ns (k*3+1)))/\X.cell? ⟨g,3*k+2,none⟩=some (.int .i64 (eH ns (k*3+2)))) (go_keep) (fail)
   have hown9:=(O1 hown hlt).below (Below.refl _ _).drew;have hB9:=(((hbel.setCell (p:=⟨w.heap.size,k*3,none⟩) nl (.int .i64 (eH ns (k*3)))).setCell (p:=⟨w.heap.size,k*3+1,none⟩) nl (.int .i64 (eH ns (k*3+1)))).setCell (p:=⟨w.heap.size,k*3+2,none⟩) nl (.int .i64 (eH ns (k*3+2)))).drew;go_wp2
   go_roundw
   case rel=>exact⟨k+1,by omega,by go_num,hown9,hB9⟩
   case measure=>simp[intOf];omega
  ·have hkm:k=m:=by omega
   subst hkm;go_wp2;go_ret;exact⟨rfl,World.rowIs.congr hown (fun j hj=>by unfold upto;rw[if_pos hj]),hbel⟩
end
section
open Go.RowKit
theorem lQ(x:Int)(w:World):
  Calls Tryz.prog 139 #[.int .i64 x] w fun e w'=>e=.returned (.bool (dD x 1 1000000))/\w'=w:=by
 by_cases h1:1<=x<;>by_cases h2:x<=1000000 <;>
 ·go_enter Tryz.func139,Tryz.ntmps139
  go_wp2;go_ret;exact⟨by simp[dD,h1,h2],rfl⟩
theorem wE(f t g p:Int)(w:World):
  Calls Tryz.prog 133 #[.agg #[.int .i64 f,.int .i64 t,.int .i64 g],.int .i64 p] w fun e w'=>e=.returned (.bool (sC f t g p))/\Below w.heap.size w w':=by
 unfold sC;rcases bq (dD f 0 (p-1)) with h1|h1
 ·rcases bq (dD t 0 (p-1)) with h2|h2
  ·rcases bq (f != t) with h3|h3 <;>
   ·go_enter Tryz.func133,Tryz.ntmps133
    go_wp2_with (first|(go_at_call 128;refine (eZ _ _ _).mono ?_;rintro e w1 ⟨rfl,rfl⟩)|(go_at_call 139;refine (lQ _ _).mono ?_;rintro e w1 ⟨rfl,rfl⟩))
    go_ret;exact⟨by simp[h1,h2,h3],(Below.refl _ _).alloc nl _⟩
  ·go_enter Tryz.func133,Tryz.ntmps133
   go_wp2_with (first|(go_at_call 128;refine (eZ _ _ _).mono ?_;rintro e w1 ⟨rfl,rfl⟩)|(go_at_call 139;refine (lQ _ _).mono ?_;rintro e w1 ⟨rfl,rfl⟩))
   go_ret;exact⟨by simp[h1,h2],(Below.refl _ _).alloc nl _⟩
 ·go_enter Tryz.func133,Tryz.ntmps133
  go_wp2_with (first|(go_at_call 128;refine (eZ _ _ _).mono ?_;rintro e w1 ⟨rfl,rfl⟩)|(go_at_call 139;refine (lQ _ _).mono ?_;rintro e w1 ⟨rfl,rfl⟩))
  go_ret;exact⟨by simp[h1],(Below.refl _ _).alloc nl _⟩
end
section
open Go.ChangeShapes Go.WideShapes Go.ChangeAt Go.RowKit Go.Deep Go.Joins
attribute [local go_sem ↓] Go.wp_at_zero Go.wp_at_succ
theorem qL(ao:Option Addr)(n cap:Nat)(F T G:Nat->Int)(hn:n<=1048576)(w:World)(hr:Row w ao n F T G):
  Calls Tryz.prog 127 #[.slice ao n cap] w fun e w'=>e=.returned (.bool (fX F T G n))/\Below w.heap.size w w':=by
 by_cases h1:n<1
 ·have h1':(n:Int)<1:=by omega
  have hv:fX F T G n=false:=by simp[fX];omega
  rw[hv];go_enter Tryz.func127,Tryz.ntmps127;go_wp2;go_ret;exact⟨rfl,Below.refl _ _⟩
 have h1':¬ (n:Int)<1:=by omega
 by_cases h2:10<n
 ·have h2':10<(n:Int):=by omega
  have hv:fX F T G n=false:=by simp[fX];omega
  rw[hv];go_enter Tryz.func127,Tryz.ntmps127;go_wp2;go_ret;exact⟨rfl,Below.refl _ _⟩
 have h2':¬ 10<(n:Int):=by omega
 have hv:fX F T G n=pV F T G n:=by
  have e1:decide (1<=n)=true:=by simp;omega
  have e2:decide (n<=10)=true:=by simp;omega
  rw[fX,e1,e2];rfl
 rw[hv];clear hv;go_enter Tryz.func127,Tryz.ntmps127;go_wp2
 go_loopw [15] (fun x wr=>∃ i:Nat,i<=n/\x=.int .i64 i/\pV F T G i=true/\Below w.heap.size w wr) (fun x _=>n-(intOf x).toNat)
 case atStart=>exact⟨0,Nat.zero_le _,rfl,rfl,Below.refl _ _⟩
 case round=>
  obtain⟨i,hi,rfl,hall,hbel⟩:=hrel
  by_cases hlt:i<n
  rotate_left
  ·obtain rfl:i=n:=by omega
   go_wp2;go_ret;exact⟨by rw[hall];rfl,hbel⟩
  obtain⟨b,o,eo,c0,c1,c2⟩:=(hr.below hbel nl) i hlt;subst eo;have hlt':(i:Int)<(n:Int):=by omega
  have hi0:(0:Int)<=(i:Int):=by omega
  have hal:=(Below.refl wr.heap.size wr).alloc nl (.cells #[.int .i64 (F i),.int .i64 (T i),.int .i64 (G i)] 115);have hB:=aF hbel nl hal;cases ha:sC (F i) (T i) (G i) 24
  ·have hno:=wU hlt ha
   go_wp2_with fail
   refine (wE (F i) (T i) (G i) 24 _).mono ?_;rintro e w1 ⟨rfl,hb1⟩;rw[ha];go_wp2;go_ret;exact⟨by rw[hno];rfl,aF hB nl hb1⟩
  ·go_wp2_with fail
   refine (wE (F i) (T i) (G i) 24 _).mono ?_;rintro e w1 ⟨rfl,hb1⟩;rw[ha];go_wp2
   go_roundw
   case rel=>exact⟨i+1,by omega,by go_num,by simp[pV,hall,ha],aF hB nl hb1⟩
   case measure=>simp[intOf];omega
def kY(K:Int)(ao:Option Addr)(n cap:Nat)(a b:Int):Value:=
 if K=1 then .iface 160 (.agg #[])
 else if K=2 then .iface 162 (.agg #[.slice ao n cap])
 else if K=3 then .iface 165 (.agg #[.int .i64 a,.int .i64 b])
 else .nilIface
end
end Go.Proofs.YtbabakgjkloabaaGreatDoor
