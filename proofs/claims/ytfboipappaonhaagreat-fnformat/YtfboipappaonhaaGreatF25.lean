import Derived.Deep.RegionHeld3
import Derived.BigQuiet
import Derived.Test.YtfboipappaonhaaGreatF02
import Derived.Test.YtfboipappaonhaaGreatF04
import Derived.Test.YtfboipappaonhaaGreatF07
import Derived.Test.YtfboipappaonhaaGreatF08
import Derived.Test.YtfboipappaonhaaGreatF16
import Derived.Test.YtfboipappaonhaaGreatF18
import Derived.Test.YtfboipappaonhaaGreatF24
namespace Go.Proofs.YtfboipappaonhaaGreat
set_option linter.unusedSimpArgs false
set_option linter.unusedVariables false
set_option maxHeartbeats 16000000
set_option maxRecDepth 100000
open Go.RowKit
theorem zEi (rp cap p:Nat) (a:Option Addr) (bs:List UInt8) (w:World) (h:RdF w rp a cap bs p) (hl:bs.length<=1200) :
  Calls Tryz.prog 113 #[.pointer (some ⟨rp,0,none⟩)] w fun e w'=>(∃ g:ByteArray,e = .returned (.string g)/\Hid (g=zCx (nxt bs p)))/\Hid (RdF w' rp a cap bs (adv bs p))/\Hid (zE w w' rp):=by
 have H:=zB h
 clear h
 go_enter Tryz.func113,Tryz.ntmps113
 go_wp2_with fail
 refine (zBU rp cap p a bs _ (zA H) hl).mono ?_
 rintro e w1 ⟨⟨k,rfl,hk,HK⟩,H1,HP1⟩
 clear H
 have hcs:k%5=0\/k%5=1\/k%5=2\/k%5=3\/k%5=4:=by omega
 rcases hcs with hc | hc | hc | hc | hc
 ·have HC:=zB hc
  have e0:((k:Int)%5==0)=true:=by simp; omega
  clear hc
  go_wp2_with fail
  go_ret
  exact ⟨⟨_,rfl,zB (by rw [<- zA HK]; simp [zCx,zA HC])⟩,H1,HP1⟩
 ·have HC:=zB hc
  have e0:((k:Int)%5==0)=false:=by simp; omega
  have e1:((k:Int)%5==1)=true:=by simp; omega
  clear hc
  go_wp2_with fail
  go_ret
  exact ⟨⟨_,rfl,zB (by rw [<- zA HK]; simp [zCx,zA HC])⟩,H1,HP1⟩
 ·have HC:=zB hc
  have e0:((k:Int)%5==0)=false:=by simp; omega
  have e1:((k:Int)%5==1)=false:=by simp; omega
  have e2:((k:Int)%5==2)=true:=by simp; omega
  clear hc
  go_wp2_with fail
  go_ret
  exact ⟨⟨_,rfl,zB (by rw [<- zA HK]; simp [zCx,zA HC])⟩,H1,HP1⟩
 ·have HC:=zB hc
  have e0:((k:Int)%5==0)=false:=by simp; omega
  have e1:((k:Int)%5==1)=false:=by simp; omega
  have e2:((k:Int)%5==2)=false:=by simp; omega
  have e3:((k:Int)%5==3)=true:=by simp; omega
  clear hc
  go_wp2_with fail
  go_ret
  exact ⟨⟨_,rfl,zB (by rw [<- zA HK]; simp [zCx,zA HC])⟩,H1,HP1⟩
 ·have HC:=zB hc
  have e0:((k:Int)%5==0)=false:=by simp; omega
  have e1:((k:Int)%5==1)=false:=by simp; omega
  have e2:((k:Int)%5==2)=false:=by simp; omega
  have e3:((k:Int)%5==3)=false:=by simp; omega
  clear hc
  go_wp2_with fail
  go_ret
  exact ⟨⟨_,rfl,zB (by rw [<- zA HK]; simp [zCx,zA HC])⟩,H1,HP1⟩
def zET (a b:ByteArray):Bool:=
 if a.size=0\/b.size=0 then false
 else if sgB (a.data.getD 0 0)=true\/sgB (b.data.getD 0 0)=true then (sgB (a.data.getD 0 0)&&sgB (b.data.getD 0 0))
 else decide (a≠⟨#[40]⟩/\a≠⟨#[41]⟩/\b≠⟨#[40]⟩/\b≠⟨#[41]⟩)
theorem zEj (a b:ByteArray) (w:World) :
  Calls Tryz.prog 114 #[.string a,.string b] w fun e w'=>e = .returned (.bool (zET a b))/\w'=w:=by
 by_cases ha:a.size=0
 ·have ea:a=⟨#[]⟩:=ByteArray.size_eq_zero_iff.1 ha
  have hm:zET a b=false:=by unfold zET; rw [if_pos (Or.inl ha)]
  rw [hm]
  subst ea
  go_enter Tryz.func114,Tryz.ntmps114
  go_wp2_with fail
  go_ret
  exact ⟨rfl,rfl⟩
 by_cases hb:b.size=0
 ·have eb:b=⟨#[]⟩:=ByteArray.size_eq_zero_iff.1 hb
  have hm:zET a b=false:=by unfold zET; rw [if_pos (Or.inr hb)]
  rw [hm]
  have na:¬ a=⟨#[]⟩:=fun e=>ha (by rw [e]; rfl)
  have na':¬ a.toList=[]:=fun e=>na (zAK (by rw [e,ByteArray.toList_eq]))
  subst eb
  clear ha hb
  go_enter Tryz.func114,Tryz.ntmps114
  go_wp2_with fail
  go_ret
  exact ⟨rfl,rfl⟩
 have na:¬ a=⟨#[]⟩:=fun e=>ha (by rw [e]; rfl)
 have na':¬ a.toList=[]:=fun e=>na (zAK (by rw [e,ByteArray.toList_eq]))
 have nb:¬ b=⟨#[]⟩:=fun e=>hb (by rw [e]; rfl)
 have nb':¬ b.toList=[]:=fun e=>nb (zAK (by rw [e,ByteArray.toList_eq]))
 have la:(0:Int)<(a.size:Int):=by omega
 have lb:(0:Int)<(b.size:Int):=by omega
 have la0:0<a.size:=by omega
 have lb0:0<b.size:=by omega
 have xa:a.data.getD 0 0=a[0]:=by
  show a.data.getD 0 0=a.data[0]
  unfold Array.getD
  rw [dif_pos (show 0<a.data.size from la0)]
  rfl
 have xb:b.data.getD 0 0=b[0]:=by
  show b.data.getD 0 0=b.data[0]
  unfold Array.getD
  rw [dif_pos (show 0<b.data.size from lb0)]
  rfl
 have hm:zET a b=if sgB a[0]=true\/sgB b[0]=true then (sgB a[0]&&sgB b[0]) else decide (a≠⟨#[40]⟩/\a≠⟨#[41]⟩/\b≠⟨#[40]⟩/\b≠⟨#[41]⟩):=by unfold zET; rw [if_neg (by omega),xa,xb]
 obtain ⟨M,HM⟩:∃ M,Hid (zET a b=M):=⟨_,zB rfl⟩
 rw [zA HM]
 have HE:=zB (hm.symm.trans (zA HM))
 have ea:a.toList.isEmpty=false:=by cases h:a.toList with | nil=>exact absurd h na' | cons x r=>rfl
 have eb:b.toList.isEmpty=false:=by cases h:b.toList with | nil=>exact absurd h nb' | cons x r=>rfl
 clear hm xa xb
 cases ca:sgB a[0] with
 | true=>
  cases cb:sgB b[0] with
  | true=>
   have HV:=zB (show M=true by rw [<- zA HE,ca,cb]; rfl)
   go_enter Tryz.func114,Tryz.ntmps114
   go_wp2_with (go_at_call 154; refine (Zf _ _).mono ?_; rintro e w' ⟨rfl,rfl⟩)
   go_ret
   exact ⟨by rw [zA HV]; rfl,rfl⟩
  | false=>
   have HV:=zB (show M=false by rw [<- zA HE,ca,cb]; rfl)
   go_enter Tryz.func114,Tryz.ntmps114
   go_wp2_with (go_at_call 154; refine (Zf _ _).mono ?_; rintro e w' ⟨rfl,rfl⟩)
   go_ret
   exact ⟨by rw [zA HV]; rfl,rfl⟩
 | false=>
  cases cb:sgB b[0] with
  | true=>
   have HV:=zB (show M=false by rw [<- zA HE,ca,cb]; rfl)
   go_enter Tryz.func114,Tryz.ntmps114
   go_wp2_with (go_at_call 154; refine (Zf _ _).mono ?_; rintro e w' ⟨rfl,rfl⟩)
   go_ret
   exact ⟨by rw [zA HV]; rfl,rfl⟩
  | false=>
   have t40:∀ x:ByteArray,x=⟨#[40]⟩↔x.toList=[40]:=fun x=>⟨fun e=>by rw [e,ByteArray.toList_eq],fun e=>zAK (by rw [e,ByteArray.toList_eq])⟩
   have t41:∀ x:ByteArray,x=⟨#[41]⟩↔x.toList=[41]:=fun x=>⟨fun e=>by rw [e,ByteArray.toList_eq],fun e=>zAK (by rw [e,ByteArray.toList_eq])⟩
   have HV:=zB (show M=((!a.toList==[40])&&(!a.toList==[41])&&(!b.toList==[40])&&(!b.toList==[41])) by
    rw [<- zA HE,ca,cb,if_neg (by simp)]
    simp only [ne_eq,t40,t41]
    rw [Bool.eq_iff_iff]
    simp [and_assoc])
   clear t40 t41 HE HM
   go_enter Tryz.func114,Tryz.ntmps114
   go_wp2_with (go_at_call 154; refine (Zf _ _).mono ?_; rintro e w' ⟨rfl,rfl⟩)
   all_goals
    go_ret
    refine ⟨?_,rfl⟩
    rw [zA HV]
    clear HV
    simp_all
def atB (ws:List ByteArray) (i:Nat):ByteArray:=ws.getD i ByteArray.empty
def zD1 (ws:List ByteArray) (i k:Nat):ByteArray:=if 0<i/\(zCx k).size=0/\zET (atB ws (i-1)) (atB ws i)=true then ⟨#[32]⟩ else zCx k
def zAb (bs:List UInt8) (ws:List ByteArray) (p:Nat):Nat->ByteArray×Nat
 | 0=>(zCx (nxt bs p),adv bs p)
 | i+1=>((zAb bs ws p i).1++zD1 ws i (nxt bs (zAb bs ws p i).2)++atB ws i,adv bs (zAb bs ws p i).2)
theorem zIU (ws:List ByteArray) (i k:Nat):(zD1 ws i k).size<=2:=by
 unfold zD1
 split
 ·decide
 ·exact zA8 k
theorem zIV (bs:List UInt8) (ws:List ByteArray) (p:Nat) (h:∀ i,(atB ws i).size<=20000):∀ i,(zAb bs ws p i).1.size<=2+20002*i
 | 0=>by have:=zA8 (nxt bs p); simp only [zAb]; omega
 | i+1=>by
  have h1:=zIV bs ws p h i
  have h2:=zIU ws i (nxt bs (zAb bs ws p i).2)
  have h3:=h i
  show ((zAb bs ws p i).1++zD1 ws i (nxt bs (zAb bs ws p i).2)++atB ws i).size<=_
  rw [ByteArray.size_append,ByteArray.size_append]
  omega
end Go.Proofs.YtfboipappaonhaaGreat
namespace Go.Proofs.YtfboipappaonhaaGreat
set_option linter.unusedSimpArgs false
set_option linter.unusedVariables false
set_option maxHeartbeats 16000000
set_option maxRecDepth 100000
open Go.RowKit
open Go.Deep (BT)
def avN (bs:List UInt8):Nat->Nat->Nat
 | 0,p=>p
 | i+1,p=>adv bs (avN bs i p)
theorem zGh (bs:List UInt8) (ws:List ByteArray) (p:Nat):∀ i,(zAb bs ws p i).2=avN bs (i+1) p
 | 0=>rfl
 | i+1=>by
  show adv bs (zAb bs ws p i).2=adv bs (avN bs (i+1) p)
  rw [zGh bs ws p i]
theorem zDf (bs:List UInt8) (ws:List ByteArray) (p:Nat) (h:∀ i,(atB ws i).size<=100):∀ i,(zAb bs ws p i).1.size<=2+102*i
 | 0=>by have:=zA8 (nxt bs p); simp only [zAb]; omega
 | i+1=>by
  have h1:=zDf bs ws p h i
  have h2:=zIU ws i (nxt bs (zAb bs ws p i).2)
  have h3:=h i
  show ((zAb bs ws p i).1++zD1 ws i (nxt bs (zAb bs ws p i).2)++atB ws i).size<=_
  rw [ByteArray.size_append,ByteArray.size_append]
  omega
def zMb (bs:List UInt8) (ns:List OpR) (sp:Bool) (p q:Nat):Prop:=
 ∃ n q1,zN2 bs ns (adv bs p) n q1/\((sp=true/\nxt bs p%64=6/\q=q1)\/(¬ (sp=true/\nxt bs p%64=6)/\q=avN bs (n+2) (nxt bs p%5)))
theorem zMb.one {bs:List UInt8} {ns:List OpR} {sp:Bool} {p q q':Nat} (h:zMb bs ns sp p q) (h':zMb bs ns sp p q'):q=q':=by
 obtain ⟨n,q1,hw,hc⟩:=h
 obtain ⟨n',q1',hw',hc'⟩:=h'
 obtain ⟨rfl,rfl⟩:=hw.one hw'
 rcases hc with ⟨a,b,rfl⟩ | ⟨a,rfl⟩ <;> rcases hc' with ⟨a',b',rfl⟩ | ⟨a',rfl⟩
 ·rfl
 ·exact absurd ⟨a,b⟩ a'
 ·exact absurd ⟨a',b'⟩ a
 ·rfl
def zJQ (bs:List UInt8) (ns:List OpR):Prop:=
 ∃ ys q q2,zB8 bs (adv bs (adv bs 0)) (3+nxt bs (adv bs 0)%8) ys q/\zMb bs ys (decide (nxt bs 0%3=2)) q q2 /\
  ((nxt bs 0%32=29/\ns=zCj)\/(nxt bs 0%32=31/\ns=zCl ys bs q2)\/(nxt bs 0%32≠29/\nxt bs 0%32≠31/\ns=ys))
theorem zJQ.one {bs:List UInt8} {ns ns':List OpR} (h:zJQ bs ns) (h':zJQ bs ns'):ns=ns':=by
 obtain ⟨ys,q,q2,ht,hx,hc⟩:=h
 obtain ⟨ys',q',q2',ht',hx',hc'⟩:=h'
 obtain ⟨rfl,rfl⟩:=ht.one ht'
 obtain rfl:=hx.one hx'
 rcases hc with ⟨a,rfl⟩ | ⟨a,rfl⟩ | ⟨a,b,rfl⟩ <;> rcases hc' with ⟨a',rfl⟩ | ⟨a',rfl⟩ | ⟨a',b',rfl⟩
 ·rfl
 ·omega
 ·exact absurd a a'
 ·omega
 ·rfl
 ·exact absurd a b'
 ·exact absurd a' a
 ·exact absurd a' b
 ·rfl
theorem zJQ.sized {bs:List UInt8} {ns:List OpR} (h:zJQ bs ns):ns.length<=1048576/\ZV ns:=by
 obtain ⟨ys,q,q2,ht,_,hc⟩:=h
 obtain ⟨h1,h2⟩:=ht.len
 have h3:=Nat.mod_lt (nxt bs (adv bs 0)) (show 0<8 by decide)
 rcases hc with ⟨_,rfl⟩ | ⟨_,rfl⟩ | ⟨_,_,rfl⟩
 ·refine ⟨by decide,fun i hi=>?_⟩
  have:i=0:=by have:i<1:=hi; omega
  subst this
  show 1<=maxLen
  unfold maxLen; omega
 ·obtain ⟨h4,h5⟩:=zMN h2 bs q2
  exact ⟨by omega,fun i hi=>by have:=h5 i hi; unfold maxLen; omega⟩
 ·exact ⟨by omega,fun i hi=>by have:=h2 i hi; unfold maxLen; omega⟩
end Go.Proofs.YtfboipappaonhaaGreat
namespace Go.Proofs.YtfboipappaonhaaGreat
set_option linter.unusedSimpArgs false
set_option linter.unusedVariables false
set_option maxHeartbeats 16000000
set_option maxRecDepth 100000
open Go.RowKit
theorem zDg (rp cap p gw cw:Nat) (a:Option Addr) (bs:List UInt8) (ws:List ByteArray) (w:World) (h:RdF w rp a cap bs p) (hl:bs.length<=1200) (hwl:ws.length<=100000) (hsz:∀ i,(atB ws i).size<=20000) (hgw:gw<w.heap.size) (hne:gw≠rp) (hw:∀ i,i<ws.length->w.cell? ⟨gw,i,none⟩=some (.string (atB ws i))) :
  Calls Tryz.prog 64 #[.pointer (some ⟨rp,0,none⟩),.slice (some ⟨gw,0,none⟩) ws.length cw] w fun e w'=>(∃ s:ByteArray,e = .returned (.string s)/\Hid (s=(zAb bs ws p ws.length).1++zCx (nxt bs (zAb bs ws p ws.length).2)))/\Hid (RdF w' rp a cap bs (adv bs (zAb bs ws p ws.length).2))/\Hid (zE w w' rp):=by
 have H:=zB h
 have HW:=zB hw
 have HSZ:=zB hsz
 clear h hw hsz
 go_enter Tryz.func64,Tryz.ntmps64
 go_wp2_with fail
 (with_reducible refine (zEi rp cap p a bs _ (zA H) hl).mono ?_)
 rintro e w1 ⟨⟨g1,rfl,HG1⟩,H1,HP1⟩
 obtain ⟨o0,HO0⟩:∃ o0,Hid (o0=(zAb bs ws p 0).1):=⟨_,zB rfl⟩
 obtain rfl:g1=o0:=(zA HG1).trans (zA HO0).symm
 go_wp2_with fail
 go_loopw [5,6] (fun ov iv wr=>∃ (i:Nat) (o:ByteArray) (q:Nat),i<=ws.length/\iv = .int .i64 (i:Int)/\ov = .string o/\Hid (o=(zAb bs ws p i).1)/\Hid (q=(zAb bs ws p i).2)/\Hid (RdF wr rp a cap bs q)/\Hid (zE w wr rp)) (fun _ iv _=>ws.length-(intOf iv).toNat)
 case atStart=>exact ⟨0,_,_,Nat.zero_le _,rfl,rfl,HO0,zB rfl,H1,HP1⟩
 case round=>
  clear H H1 HP1 HO0 HG1
  obtain ⟨i,o,q,hi,rfl,rfl,HOE,HQE,HR,HK⟩:=hrel
  have hos:o.size<=2+20002*i:=by rw [zA HOE]; exact zIV bs ws p (zA HSZ) i
  have hos2:o.size<=2000300000:=by omega
  have hwi:=(zA HSZ) i
  clear hos
  by_cases hlt:i<ws.length
  case neg=>
   have hie:i=ws.length:=by omega
   subst hie
   go_wp2_with fail
   (with_reducible refine (zEi rp cap q a bs _ (zA HR) hl).mono ?_)
   rintro e w2 ⟨⟨g2,rfl,HG2⟩,H2,HP2⟩
   have hg2:g2.size<=2:=by rw [zA HG2]; exact zA8 _
   go_wp2_with fail
   go_ret
   exact ⟨⟨_,rfl,zB (by rw [<- zA HOE,<- zA HQE,<- zA HG2])⟩,zB (by rw [<- zA HQE]; exact zA H2),zB ((zA HK).trans (zA HP2))⟩
  have hltI:(i:Int)<(ws.length:Int):=by omega
  go_wp2_with fail
  (with_reducible refine (zEi rp cap q a bs _ (zA HR) hl).mono ?_)
  rintro e w2 ⟨⟨g2,rfl,HG2⟩,H2,HP2⟩
  have hg2:g2.size<=2:=by rw [zA HG2]; exact zA8 _
  have HK2:=zB ((zA HK).trans (zA HP2))
  have c0:=((zA HK2).cell (b:=gw) hgw hne i).trans ((zA HW) i hlt)
  clear HR HK HP2
  by_cases hi0:i=0
  ·subst hi0
   have e0:¬ (0:Int)<((0:Nat):Int):=by omega
   go_wp2_with fail
   go_quiet (fail)
   go_wp2_with fail
   refine ⟨⟨1,_,adv bs q,by omega,rfl,rfl,zB ?_,zB ?_,zB ((zA H2).drewN _),zB ((zA HK2).trans (Zz _ _ _))⟩,by simp [intOf]; omega⟩
   ·show o++g2++atB ws 0=(zAb bs ws p 0).1++zD1 ws 0 (nxt bs (zAb bs ws p 0).2)++atB ws 0
    have e1:zD1 ws 0 (nxt bs (zAb bs ws p 0).2)=g2:=by
     unfold zD1
     rw [if_neg (fun h=>absurd h.1 (by omega)),zA HG2,zA HQE]
    rw [e1,zA HOE]
   ·rw [zA HQE]; rfl
  ·have e0:(0:Int)<(i:Int):=by omega
   have e0n:0<i:=by omega
   have e0b:decide (0<i)=true:=decide_eq_true e0n
   have e0c:decide ((0:Int)<(i:Int))=true:=decide_eq_true e0
   have c1:=((zA HK2).cell (b:=gw) hgw hne (i-1)).trans ((zA HW) (i-1) (by omega))
   by_cases hg0:g2.size=0
   ·have eg:g2=⟨#[]⟩:=ByteArray.size_eq_zero_iff.1 hg0
    have ei:(i:Int)-1=((i-1:Nat):Int):=by omega
    have hi1:((i-1:Nat):Int)<(ws.length:Int):=by omega
    subst eg
    obtain ⟨mv,HMV⟩:∃ mv,Hid (zET (atB ws (i-1)) (atB ws i)=mv):=⟨_,zB rfl⟩
    have HX:=zB (zEj (atB ws (i-1)) (atB ws i) w2.drew)
    rw [zA HMV] at HX
    cases mv with
    | true=>
     go_wp2_with fail
     go_quiet ((go_at_call 114; exact Calls.quiet_of_same (by have:=zEj (atB ws (i-1)) (atB ws i); rw [zA HMV] at this; exact this _)))
     go_wp2_with fail
     refine ⟨⟨i+1,_,adv bs q,by omega,by simp,rfl,zB ?_,zB ?_,zB ((zA H2).drewN _),zB ((zA HK2).trans (Zz _ _ _))⟩,by simp [intOf]; omega⟩
     ·show o++(⟨#[32]⟩:ByteArray)++atB ws i=(zAb bs ws p i).1++zD1 ws i (nxt bs (zAb bs ws p i).2)++atB ws i
      have e1:zD1 ws i (nxt bs (zAb bs ws p i).2)=(⟨#[32]⟩:ByteArray):=by
       unfold zD1
       rw [<- zA HQE]
       rw [if_pos ⟨e0n,by rw [<- zA HG2]; rfl,zA HMV⟩]
      rw [e1,zA HOE]
     ·rw [zA HQE]; rfl
    | false=>
     go_wp2_with fail
     go_quiet ((go_at_call 114; exact Calls.quiet_of_same (by have:=zEj (atB ws (i-1)) (atB ws i); rw [zA HMV] at this; exact this _)))
     go_wp2_with fail
     refine ⟨⟨i+1,_,adv bs q,by omega,by simp,rfl,zB ?_,zB ?_,zB ((zA H2).drewN _),zB ((zA HK2).trans (Zz _ _ _))⟩,by simp [intOf]; omega⟩
     ·show o++(⟨#[]⟩:ByteArray)++atB ws i=(zAb bs ws p i).1++zD1 ws i (nxt bs (zAb bs ws p i).2)++atB ws i
      have e1:zD1 ws i (nxt bs (zAb bs ws p i).2)=(⟨#[]⟩:ByteArray):=by
       unfold zD1
       rw [<- zA HQE]
       rw [if_neg (fun h=>by rw [zA HMV] at h; exact absurd h.2.2 (by decide)),<- zA HG2]
      rw [e1,zA HOE]
     ·rw [zA HQE]; rfl
   ·have ng:¬ g2=⟨#[]⟩:=fun e=>hg0 (by rw [e]; rfl)
    have ng':¬ g2.toList=[]:=fun e=>ng (zAK (by rw [e,ByteArray.toList_eq]))
    have eg:g2.toList.isEmpty=false:=by cases h:g2.toList with | nil=>exact absurd h ng' | cons x r=>rfl
    have hcs:g2=⟨#[32]⟩\/g2=⟨#[10,9]⟩\/g2=⟨#[32,32]⟩:=by
     have h:=zA HG2
     unfold zCx at h
     split at h
     ·exact Or.inl h
     ·split at h
      ·exact Or.inr (Or.inl h)
      ·split at h
       ·exact Or.inr (Or.inr h)
       ·exact absurd h ng
    clear eg ng ng' hg2
    rcases hcs with rfl | rfl | rfl
    all_goals
     go_wp2_with fail
     go_quiet (fail)
     go_wp2_with fail
     refine ⟨⟨i+1,_,adv bs q,by omega,by simp,rfl,zB ?_,zB ?_,zB ((zA H2).drewN _),zB ((zA HK2).trans (Zz _ _ _))⟩,by simp [intOf]; omega⟩
     ·show _=(zAb bs ws p i).1++zD1 ws i (nxt bs (zAb bs ws p i).2)++atB ws i
      have e1:zD1 ws i (nxt bs (zAb bs ws p i).2)=zCx (nxt bs q):=by
       unfold zD1
       rw [<- zA HQE,if_neg (fun h=>by rw [<- zA HG2] at h; exact absurd h.2.1 (by decide))]
      rw [e1,<- zA HG2,zA HOE]
     ·rw [zA HQE]; rfl
theorem zKP {xs:List OpR} (hx:∀ i,(atO xs i).s.size<=16) (bs:List UInt8) (p:Nat):(zAi xs bs p).size<=100:=by
 have e1:(⟨#[97,49,95,98]⟩:ByteArray).size=4:=rfl
 have e2:(⟨#[49,48,50,55]⟩:ByteArray).size=4:=rfl
 unfold zAi
 split
 ·have:=hx (nxt bs p/8%xs.length); omega
 ·split
  ·decide
  ·split
   ·decide
   ·split
    ·rw [ByteArray.size_extract]; omega
    ·split
     ·have:=zE1 (nxt bs p); omega
     ·split
      ·show 1<=100; omega
      ·rw [ByteArray.size_extract]; omega
theorem zFu {ws:List ByteArray} {n:Nat} (h:∀ s∈ws,s.size<=n) (i:Nat):(atB ws i).size<=n:=by
 by_cases hi:i<ws.length
 ·have:atB ws i=ws[i]:=by unfold atB; simp [List.getD,hi]
  rw [this]; exact h _ (List.getElem_mem hi)
 ·have:atB ws i=ByteArray.empty:=by unfold atB; simp [List.getD,List.getElem?_eq_none (Nat.le_of_not_lt hi)]
  rw [this]; exact Nat.zero_le _
theorem ZH.atB {w:World} {B g n c:Nat} {us:List ByteArray} (h:ZH w B (.slice (some ⟨g,0,none⟩) n c) us) (i:Nat) (hi:i<us.length):w.cell? ⟨g,i,none⟩=some (.string (atB us i)):=by
 have:=h.cells i us[i] (List.getElem?_eq_getElem hi)
 rw [Nat.zero_add] at this
 rw [this]
 unfold Go.Proofs.YtfboipappaonhaaGreat.atB
 simp [List.getD,hi]
def zA4 (w:World) (B:Nat) (v:Value) (l:List UInt8):Prop:=w.ownsRow B 5 1 v l.length (cellsB l)
theorem zA4.nil {w:World} {B:Nat} (hB:B<=w.heap.size):zA4 (w.alloc (.cells #[] 5)) B (.slice (some ⟨w.heap.size,0,none⟩) 0 0) []:=
 World.ownsRow_lit (base:=B) (e:=5) (size:=1) w #[] 0 hB (Nat.zero_le _) rfl
theorem zA4.below {w w':World} {B:Nat} {v:Value} {l:List UInt8} (h:zA4 w B v l) (hb:Below w.heap.size w w'):zA4 w' B v l:=
 World.ownsRow.kept h (row:=none) ⟨hb.os,hb.tape,hb.output,hb.size,fun i hi _=>hb.block i hi⟩ (by
  cases e:v.ownBlock with
  | none=>exact Or.inl rfl
  | some k=>exact Or.inr (fun x=>by cases x))
theorem zA4.has {w:World} {B:Nat} {v:Value} {l:List UInt8} (h:zA4 w B v l) (h1:1<=l.length):∃ g c,v = .slice (some ⟨g,0,none⟩) l.length c:=by
 obtain ⟨_,⟨rfl,h2⟩ | ⟨g,cap,cur,rfl,_⟩⟩:=h
 ·omega
 ·exact ⟨g,_,rfl⟩
theorem zA4.join {w:World} {B:Nat} {v:Value} {us vs ws:List UInt8} (h:w.ownsRow B 5 1 v (us.length+vs.length) (cellsB us++cellsB vs)) (e:ws=us++vs):zA4 w B v ws:=by
 subst e
 unfold zA4
 rw [ZX,List.length_append]
 exact h
theorem zA4.lt {w:World} {B g n c:Nat} {l:List UInt8} (h:zA4 w B (.slice (some ⟨g,0,none⟩) n c) l):B<=g/\g<w.heap.size:=World.ownsRow.lt h g rfl
theorem zDh (w:World) (b:UInt8):∀ j u,(cellsB [b])[j]?=some u->(w.alloc (.cells #[.int .u8 (b.toNat:Int)] 5)).cell? ((⟨w.heap.size,0,none⟩:Addr).add j)=some u:=by
 intro j u hj
 rw [Addr.add_mid]
 have:=World.rangeAt_of_block (w:=w.alloc (.cells #[.int .u8 (b.toNat:Int)] 5)) (b:=w.heap.size) (heap_alloc_new w _) 0 1
 exact this j u (by simpa [cellsB] using hj)
def zQH (w:World) (rp cap:Nat) (a:Option Addr) (bs:List UInt8) (D:Nat->Prop) (e:Ending) (w':World):Prop:=
 (∃ (s:ByteArray) (q:Nat),e = .returned (.string s)/\s.size<=500000/\Hid (D q)/\Hid (RdF w' rp a cap bs q))/\Hid (zE w w' rp)
theorem zHO (rp cap p gt ct:Nat) (a:Option Addr) (bs:List UInt8) (ns:List OpR) (sp:Bool) (w:World) (h:RdS w rp a cap bs p) (hl:bs.length<=1200) (hnl:ns.length<=10) (ht:zt w gt ns ns.length) (hne:gt≠rp) (hs:∀ i,(atO ns i).s.size<=16) (hks:∀ j,j<ns.length->0<=(atO ns j).k/\(atO ns j).k<=9) :
  Calls Tryz.prog 61 #[.pointer (some ⟨rp,0,none⟩),.agg #[.slice (some ⟨gt,0,none⟩) ns.length ct],.bool sp] w (zQH w rp cap a bs (fun q=>zMb bs ns sp p q)):=by
 have hrp:=h.lt
 have hgt:=ht.lt1
 have H:=zB h
 have HT:=zB ht
 have HSZ:=zB hs
 have HKS:=zB hks
 clear h ht hs hks
 go_enter Tryz.func61,Tryz.ntmps61
 go_wp2_with fail
 have HB0:=zB (zC w (.cells #[.slice (some ⟨gt,0,none⟩) ns.length ct] 25))
 (with_reducible refine (zAC rp cap p a bs _ ((zA H).below (zA HB0)) hl).mono ?_)
 rintro e w1 ⟨⟨k,rfl,hk,HK⟩,H1,HP1⟩
 have z1:w.heap.size+1<=w1.heap.size:=by have:=(zA HP1).size; simpa using this
 have tb1:w1.cell? ⟨w.heap.size,0,none⟩=some (.slice (some ⟨gt,0,none⟩) ns.length ct):=((zA HP1).cell (b:=w.heap.size) (by simp) (by omega) 0).trans (by simp [go_sem])
 have HK1:=zB ((zE.of_below (g:=rp) (zA HB0)).trans (zA HP1))
 have HT1:=zB ((zA HK1).filled (zA HT) hne)
 have HX:=zB (zGK rp cap (adv bs p) gt ct a bs ns w1 (zA H1) hl hnl (zA HT1) hne (zA HSZ) (zA HKS))
 clear H HB0 HP1 HT
 go_wp2_with fail
 (with_reducible refine (zA HX).mono ?_)
 rintro e w2 ⟨g,c,q1,ws,rfl,HR,h1,h2,HS,HD,H2,HP2⟩
 have z2:=(zA HP2).size
 have hgl:=(zA HR).lt g rfl
 have HK2:=zB ((zA HK1).trans (zA HP2))
 have HT2:=zB ((zA HP2).filled (zA HT1) hne)
 have tb2:=((zA HP2).cell (b:=w.heap.size) (by omega) (by omega) 0).trans tb1
 have hrw2:rp<w2.heap.size:=by omega
 clear HX H1 HT1 HK1 HP2 tb1
 have hgr:¬ g=rp:=by omega
 have hrg:¬ rp=g:=by omega
 have ek5:(k:Int)%5=((k%5:Nat):Int):=by omega
 cases sp with
 | false=>
  have c1:=(zA H2).c1
  have fz:=(zA H2).fz
  have HX3:=zB (zDg rp cap (k%5) g c a bs ws (w2.setCell ⟨rp,1,none⟩ (.int .i64 ((k:Int)%5))) ((zA H2).free.move (k%5) ((k:Int)%5) ek5) hl (by omega) (fun i=>by have:=zFu (zA HS) i; omega) (by simpa [World.setCell] using hgl.2) hgr (fun i hi=>(World.cell?_setCell_other _ _ _ _ (fun e=>hrg (by injection e))).trans ((zA HR).atB i hi)))
  clear ek5
  go_wp2_with fail
  (with_reducible refine (zA HX3).mono ?_)
  rintro e w4 ⟨⟨s,rfl,HSE⟩,H4,HP4⟩
  have hss:s.size<=500000:=by
   have a1:=zDf bs ws (k%5) (fun i=>by have:=zFu (zA HS) i; omega) ws.length
   have a2:=zA8 (nxt bs (zAb bs ws (k%5) ws.length).2)
   rw [zA HSE,ByteArray.size_append]
   omega
  clear HX3
  go_wp2_with fail
  go_ret
  refine ⟨⟨s,_,rfl,hss,zB ⟨ws.length,q1,zA HD,Or.inr ⟨(fun h=>absurd h.1 (by decide)),?_⟩⟩,H4⟩,zB ((zA HK2).trans ((zAE w2 rp 1 _).trans (zA HP4)))⟩
  rw [zGh,<- zA HK]
  rfl
 | true=>
  by_cases h87:k%8=7
  ·have e87:((k:Int)%8==7)=true:=by simp; omega
   have e66:((k:Int)%64==6)=false:=by simp; omega
   have h66:k%64≠6:=by omega
   obtain ⟨m,hmE⟩:∃ m,m=k/8%ws.length:=⟨_,rfl⟩
   have hmi:m<ws.length:=by rw [hmE]; exact Nat.mod_lt _ (by omega)
   have e4:(k:Int)/8%(ws.length:Int)=(m:Int):=by rw [hmE]; simp
   have e5:(m:Int)<(ws.length:Int):=by omega
   have e6:(0:Int)<=(m:Int):=by omega
   have e7:IntKind.i64.wrap ((k:Int)/8)=(k:Int)/8:=Go.IntWalk.i64_in _ (by omega)
   have e9:((ws.length:Int)==0)=false:=beq_eq_false_iff_ne.2 (by omega)
   have e9':¬ (ws.length:Int)=0:=by omega
   have h9n:ws.length≠0:=by omega
   have e10:((k:Int)/8).tmod (ws.length:Int)=(m:Int):=by rw [Int.tmod_eq_emod_of_nonneg (by omega)]; exact e4
   clear hmE
   have HX3:=zB (zGy rp cap q1 gt ct a bs ns w2 (zA H2) hl (by omega) (zA HT2).ops (zA HT2).lt1 hne)
   go_wp2_with fail
   (with_reducible refine (zA HX3).mono ?_)
   rintro e w3 ⟨⟨wd,rfl,HWD⟩,H3,HP3⟩
   have z3:=(zA HP3).size
   have hws3:wd.size<=100:=by rw [zA HWD]; exact zKP (zA HSZ) _ _
   have HR3:=zB ((zA HR).grown (ze (zA HP3)) (fun k hk e=>by simp [Value.ownBlock] at hk; injection e with e; omega))
   have cm:=(zA HR3).atB m hmi
   have fm:w3.frozen? ⟨g,m,none⟩=false:=World.ownsRow.frozenAt (zA HR3) m
   have c1:=(zA H3).c1
   have fz:=(zA H3).fz
   obtain ⟨ws2,HW2⟩:∃ ws2,Hid (ws2=ws.set m wd):=⟨_,zB rfl⟩
   have hwl:ws2.length=ws.length:=by rw [zA HW2,List.length_set]
   have HWS:=zB (show ∀ s∈ws2,s.size<=100 from fun s hs=>by
    rw [zA HW2] at hs
    rcases List.mem_or_eq_of_mem_set hs with hs | rfl
    ·have:=(zA HS) s hs; omega
    ·exact hws3)
   have HF3:=zB ((zA H3).set g m (.string wd) (by omega))
   have HX4:=zB (zDg rp cap (k%5) g c a bs ws2 ((w3.setCell ⟨g,m,none⟩ (.string wd)).setCell ⟨rp,1,none⟩ (.int .i64 ((k:Int)%5))) ((zA HF3).free.move (k%5) ((k:Int)%5) ek5) hl (by omega) (fun i=>by have:=zFu (zA HWS) i; omega) (by simp [World.setCell]; omega) hgr (fun i hi=>(World.cell?_setCell_other _ _ _ _ (fun e=>hrg (by injection e))).trans (by
    by_cases e:i=m
    ·subst e
     have:atB ws2 i=wd:=by rw [zA HW2]; unfold atB; rw [List.getD_eq_getElem?_getD,List.getElem?_set_self hmi]; rfl
     rw [this]
     exact World.cell?_setCell_same _ _ _ cm
    ·have:atB ws2 i=atB ws i:=by rw [zA HW2]; unfold atB; rw [List.getD_eq_getElem?_getD,List.getD_eq_getElem?_getD,List.getElem?_set_ne (Ne.symm e)]
     rw [this]
     exact (World.cell?_setCell_other _ _ _ _ (fun x=>e (by injection x with _ x; exact x.symm))).trans ((zA HR3).atB i (by omega)))))
   have HWL:=zB hwl
   have HK3:=zB ((zA HK2).trans (zA HP3))
   rw [hwl] at HX4
   clear hwl ek5 HX3 e4 e7 e9 e9' h9n e10
   go_wp2_with fail
   (with_reducible refine (zA HX4).mono ?_)
   rintro e w4 ⟨⟨s,rfl,HSE⟩,H4,HP4⟩
   have hss:s.size<=500000:=by
    have a1:=zDf bs ws2 (k%5) (fun i=>by have:=zFu (zA HWS) i; omega) ws.length
    have a2:=zA8 (nxt bs (zAb bs ws2 (k%5) ws.length).2)
    rw [zA HSE,ByteArray.size_append]
    omega
   clear HX4
   go_wp2_with fail
   go_ret
   refine ⟨⟨s,_,rfl,hss,zB ⟨ws.length,q1,zA HD,Or.inr ⟨fun h=>h66 (by rw [zA HK]; exact h.2),?_⟩⟩,H4⟩,zB (((zA HK3).setNew m (.string wd) (by omega)).trans ((zAE _ rp 1 _).trans (zA HP4)))⟩
   rw [zGh,<- zA HK]
   rfl
  ·have e87:((k:Int)%8==7)=false:=by simp; omega
   by_cases h66:k%64=6
   ·have e66:((k:Int)%64==6)=true:=by simp; omega
    obtain ⟨N,HN⟩:∃ N,Hid (N=998+k/64):=⟨_,zB rfl⟩
    have eN:(998:Int)+(k:Int)/64=(N:Int):=by have:=zA HN; omega
    have hN:N<=1001:=by have:=zA HN; omega
    obtain ⟨i1,hi1,hy0,hy1,hy2⟩:=zl infoByte
    have HI:=zB hi1
    have HZ:=zB (And.intro hy0 (And.intro hy1 hy2))
    have HR0:=zB (zA4.nil (w:=w2) (B:=w2.heap.size) (Nat.le_refl _))
    clear hi1 hy0 hy1 hy2 ek5
    go_wp2_with fail
    go_loopw [10,11] (fun ov iv wr=>∃ (j g' c':Nat) (l:List UInt8),ov = .slice (some ⟨g',0,none⟩) l.length c'/\iv = .int .i64 (j:Int)/\j<=N/\Hid (l.length=j)/\Hid (zA4 wr w2.heap.size (.slice (some ⟨g',0,none⟩) l.length c') l)/\Hid (Below w2.heap.size w2 wr)) (fun _ iv _=>N-(intOf iv).toNat)
    case atStart=>exact ⟨0,w2.heap.size,0,[],rfl,rfl,Nat.zero_le _,zB rfl,HR0,zB (zC _ _)⟩
    case round=>
     clear HR0
     obtain ⟨j,g',c',l,rfl,rfl,hj,HL,HRB,HBB⟩:=hrel
     have hll:l.length<=1001:=by rw [zA HL]; omega
     have hgl':=(zA HRB).lt
     have zr:=(zA HBB).size
     by_cases hlt:j<N
     ·have hltI:(j:Int)<(N:Int):=by omega
      go_wp2_with (at_builtin; refine wpList_append_own_at _ rfl (.tmp 49) (.tmp 50) 22 rfl w2.heap.size 5 i1 _ 1 1 Tryz.underlying22 (zA HI) (zA HZ).1 (zA HZ).2.1 (zA HZ).2.2 rfl (by decide) _ l.length (cellsB l) rfl ((zA HRB).below (zC _ _)) ⟨wr.heap.size,0,none⟩ 1 1 (cellsB [40]) rfl rfl (by simpa using zDh wr 40) (Zo _) ?b1 ?b2 ?b3 ?next)
      case b1=>unfold maxLen; omega
      case b2=>omega
      case b3=>first | omega | (simp; omega)
      case next=>
       intro v4 w4 hown4 hgrow4 hnil4 hat4
       obtain ⟨l4,HL4⟩:∃ l4,Hid (l4=l++[40]):=⟨_,zB rfl⟩
       have hr4:zA4 w4 w2.heap.size v4 l4:=zA4.join (us:=l) (vs:=[40]) hown4 (zA HL4)
       obtain ⟨g4,c4,rfl⟩:=hr4.has (by rw [zA HL4]; simp)
       have HR4:=zB hr4
       have hgr4:World.grownBy _ w4 (some g'):=hgrow4
       have HB4:=zB (ZD ((zA HBB).alloc (zA HBB).size _) hgr4 (fun k hk=>by injection hk with hk; omega) (by simp; omega))
       have HLL:=zB (show l4.length=j+1 by rw [zA HL4,List.length_append,zA HL]; rfl)
       clear hown4 hgrow4 hnil4 hat4 hgr4 hr4
       go_wp2_with fail
       exact ⟨⟨j+1,g4,c4,l4,rfl,by simp,by omega,HLL,HR4,HB4⟩,by simp [intOf]; omega⟩
     ·have hltI:¬ (j:Int)<(N:Int):=by omega
      go_wp2_with (at_builtin; refine wpList_append_own_at _ rfl (.tmp 52) (.tmp 53) 22 rfl w2.heap.size 5 i1 _ 1 1 Tryz.underlying22 (zA HI) (zA HZ).1 (zA HZ).2.1 (zA HZ).2.2 rfl (by decide) _ l.length (cellsB l) rfl ((zA HRB).below (zC _ _)) ⟨wr.heap.size,0,none⟩ 1 1 (cellsB [97]) rfl rfl (by simpa using zDh wr 97) (Zo _) ?b1 ?b2 ?b3 ?next)
      case b1=>unfold maxLen; omega
      case b2=>omega
      case b3=>first | omega | (simp; omega)
      case next=>
       intro v4 w4 hown4 hgrow4 hnil4 hat4
       obtain ⟨l4,HL4⟩:∃ l4,Hid (l4=l++[97]):=⟨_,zB rfl⟩
       have hr4:zA4 w4 w2.heap.size v4 l4:=zA4.join (us:=l) (vs:=[97]) hown4 (zA HL4)
       obtain ⟨g4,c4,rfl⟩:=hr4.has (by rw [zA HL4]; simp)
       have HR4:=zB hr4
       have hgr4:World.grownBy _ w4 (some g'):=hgrow4
       have HB4:=zB (ZD ((zA HBB).alloc (zA HBB).size _) hgr4 (fun k hk=>by injection hk with hk; omega) (by simp; omega))
       have HLL:=zB (show l4.length<=1002 by rw [zA HL4,List.length_append]; simp; omega)
       clear hown4 hgrow4 hnil4 hat4 hgr4 hr4 HRB HBB HL hll hgl' zr hltI hlt
       go_wp2_with fail
       go_loopw [10,12] (fun ov iv ws'=>∃ (j g' c':Nat) (l:List UInt8),ov = .slice (some ⟨g',0,none⟩) l.length c'/\iv = .int .i64 (j:Int)/\j<=N/\Hid (l.length<=1002+j)/\Hid (zA4 ws' w2.heap.size (.slice (some ⟨g',0,none⟩) l.length c') l)/\Hid (Below w2.heap.size w2 ws')) (fun _ iv _=>N-(intOf iv).toNat)
       case atStart=>exact ⟨0,g4,c4,l4,rfl,rfl,Nat.zero_le _,HLL,HR4,HB4⟩
       case round=>
        clear HR4 HB4 HLL HL4
        obtain ⟨j,g',c',l,rfl,rfl,hj,HL,HRB,HBB⟩:=hrel
        have hll:l.length<=2003:=by have:=zA HL; omega
        have hgl':=(zA HRB).lt
        have zr:=(zA HBB).size
        by_cases hlt:j<N
        ·have hltI:(j:Int)<(N:Int):=by omega
         go_wp2_with (at_builtin; refine wpList_append_own_at _ rfl (.tmp 62) (.tmp 63) 22 rfl w2.heap.size 5 i1 _ 1 1 Tryz.underlying22 (zA HI) (zA HZ).1 (zA HZ).2.1 (zA HZ).2.2 rfl (by decide) _ l.length (cellsB l) rfl ((zA HRB).below (zC _ _)) ⟨wr.heap.size,0,none⟩ 1 1 (cellsB [41]) rfl rfl (by simpa using zDh wr 41) (Zo _) ?b1 ?b2 ?b3 ?next)
         case b1=>unfold maxLen; omega
         case b2=>omega
         case b3=>first | omega | (simp; omega)
         case next=>
          intro v5 w5 hown5 hgrow5 hnil5 hat5
          obtain ⟨l5,HL5⟩:∃ l5,Hid (l5=l++[41]):=⟨_,zB rfl⟩
          have hr5:zA4 w5 w2.heap.size v5 l5:=zA4.join (us:=l) (vs:=[41]) hown5 (zA HL5)
          obtain ⟨g5,c5,rfl⟩:=hr5.has (by rw [zA HL5]; simp)
          have HR5:=zB hr5
          have hgr5:World.grownBy _ w5 (some g'):=hgrow5
          have HB5:=zB (ZD ((zA HBB).alloc (zA HBB).size _) hgr5 (fun k hk=>by injection hk with hk; omega) (by simp; omega))
          have HLL:=zB (show l5.length<=1002+(j+1) by have:=zA HL; rw [zA HL5,List.length_append]; simp; omega)
          clear hown5 hgrow5 hnil5 hat5 hgr5 hr5
          go_wp2_with fail
          exact ⟨⟨j+1,g5,c5,l5,rfl,by simp,by omega,HLL,HR5,HB5⟩,by simp [intOf]; omega⟩
        ·have hltI:¬ (j:Int)<(N:Int):=by omega
         have hcv:=Z1 wr g' l.length c' l rfl (zAm (zA HRB))
         go_wp2
         go_ret
         exact ⟨⟨_,q1,rfl,by show l.toArray.size<=500000; rw [List.size_toArray]; omega,zB ⟨ws.length,q1,zA HD,Or.inl ⟨rfl,by rw [<- zA HK]; exact h66,rfl⟩⟩,zB ((zA H2).free.below (zA HBB))⟩,zB ((zA HK2).trans (zE.of_below (zA HBB)))⟩
   ·have e66:((k:Int)%64==6)=false:=by simp; omega
    have c1:=(zA H2).c1
    have fz:=(zA H2).fz
    have HX3:=zB (zDg rp cap (k%5) g c a bs ws (w2.setCell ⟨rp,1,none⟩ (.int .i64 ((k:Int)%5))) ((zA H2).free.move (k%5) ((k:Int)%5) ek5) hl (by omega) (fun i=>by have:=zFu (zA HS) i; omega) (by simpa [World.setCell] using hgl.2) hgr (fun i hi=>(World.cell?_setCell_other _ _ _ _ (fun e=>hrg (by injection e))).trans ((zA HR).atB i hi)))
    clear ek5
    go_wp2_with fail
    (with_reducible refine (zA HX3).mono ?_)
    rintro e w4 ⟨⟨s,rfl,HSE⟩,H4,HP4⟩
    have hss:s.size<=500000:=by
     have a1:=zDf bs ws (k%5) (fun i=>by have:=zFu (zA HS) i; omega) ws.length
     have a2:=zA8 (nxt bs (zAb bs ws (k%5) ws.length).2)
     rw [zA HSE,ByteArray.size_append]
     omega
    clear HX3
    go_wp2_with fail
    go_ret
    refine ⟨⟨s,_,rfl,hss,zB ⟨ws.length,q1,zA HD,Or.inr ⟨fun h=>h66 (by rw [zA HK]; exact h.2),?_⟩⟩,H4⟩,zB ((zA HK2).trans ((zAE w2 rp 1 _).trans (zA HP4)))⟩
    rw [zGh,<- zA HK]
    rfl
end Go.Proofs.YtfboipappaonhaaGreat
