import Derived.OwnWalk
import Derived.Laws.OwnMore
import Derived.Maps.AppendAt
import Derived.Test.YtfboipappaonhaaGreatF00
import Derived.Test.YtfboipappaonhaaGreatF03
import Derived.Test.YtfboipappaonhaaGreatF06
import Derived.Test.YtfboipappaonhaaGreatF09
import Derived.Test.YtfboipappaonhaaGreatF11
import Derived.Test.YtfboipappaonhaaGreatF16
import Derived.Test.YtfboipappaonhaaGreatF17
namespace Go.Proofs.YtfboipappaonhaaGreat
set_option linter.unusedSimpArgs false
set_option linter.unusedVariables false
set_option maxHeartbeats 16000000
set_option maxRecDepth 100000
open Go.RowKit
theorem zHK {w w':World} {b off:Nat} {xs:List zD} (h:Zu w b off xs) (hb:w'.heap[b]?=w.heap[b]?):Zu w' b off xs:=fun i hi=>by
 obtain ⟨h0,h1,h2,h3⟩:=h i hi
 exact ⟨(World.cell?_of_block (w:=w) hb).trans h0,(World.cell?_of_block (w:=w) hb).trans h1,(World.cell?_of_block (w:=w) hb).trans h2,(World.cell?_of_block (w:=w) hb).trans h3⟩
theorem K2.nod {w w':World} {rp g N:Nat} {o:zD} (h:K2 w w' rp g) (hn:ZC w N o) (h1:N≠rp) (h2:N≠g):ZC w' N o:=by
 have hlt:N<w.heap.size:=block_lt_of_cell hn.1
 have c:=h.cell hlt h1 h2
 have f:=h.frozen hlt h1 h2
 obtain ⟨a0,a1,a2,a3,a4,a5⟩:=hn
 exact ⟨(c 0).trans a0,(c 1).trans a1,(c 2).trans a2,(c 3).trans a3,(f 2).trans a4,(f 3).trans a5⟩
theorem K2.set {w w':World} {rp g b o:Nat} (h:K2 w w' rp g) (v:Value) (hb:w.heap.size<=b):K2 w (w'.setCell ⟨b,o,none⟩ v) rp g:=
 ⟨h.os,h.tape,h.output,by simpa [World.setCell] using h.size,fun i hi h1 h2=>(Below.heap_setCell _ _ _ _ (by show i≠b; omega)).trans (h.block i hi h1 h2)⟩
def zN5 (rp cap:Nat) (a:Option Addr) (bs:List UInt8) (bz cz:Nat) (zs:List zD) (B j p q:Nat) (us vs:List zD):Prop:=
 ∀ (g c:Nat) (W:World),Zu W bz 0 zs->B<=W.heap.size->Zs W B g c us->RdS W rp a cap bs p ->
  Calls Tryz.prog 152 #[.pointer (some ⟨rp,0,none⟩),.slice (some ⟨bz,0,none⟩) zs.length cz,.int .i64 (j:Int),.slice (some ⟨g,0,none⟩) us.length c] W (zEz W rp cap a bs B g q vs)
def zQq (rp cap:Nat) (a:Option Addr) (bs:List UInt8) (bz cz:Nat) (zs:List zD) (B:Nat) (k:Int) (t:ByteArray) (ja jb p p2:Nat) (us us2:List zD) (m:zD):Prop:=
 (zU k=0/\us2=us/\p2=p/\m=⟨k,t,0,0⟩) \/
 (zU k=1/\zN5 rp cap a bs bz cz zs B ja p p2 us us2/\m=⟨k,t,(us2.length:Int)-1,0⟩) \/
 (zU k=2/\∃ p1 us1,zN5 rp cap a bs bz cz zs B ja p p1 us us1/\zN5 rp cap a bs bz cz zs B jb p1 p2 us1 us2/\m=⟨k,t,(us1.length:Int)-1,(us2.length:Int)-1⟩/\us1.length<=90000)
theorem zLF (rp cap:Nat) (a:Option Addr) (bs:List UInt8) (hl:bs.length<=1200) (bz cz i:Nat) (zs:List zD) (k:Int) (t:ByteArray) (ja jb:Nat) (B p p2:Nat) (us us2 us3 vs:List zD) (m:zD) (hbz:bz<B) (hrp:rp<B) (hne:bz≠rp) (hi:i<zs.length) (hzl:zs.length<=20000) (ho:atN zs i=⟨k,t,(ja:Int),(jb:Int)⟩) (hlen:us.length<=90000) (hlen2:us2.length<=90000) (hc:zQq rp cap a bs bz cz zs B k t ja jb p p2 us us2 m)
  (hu3:us3=us2++[m]) (hvs:vs=if nxt bs p2%6=5 then us3++[⟨6,ByteArray.empty,(us3.length:Int)-1,0⟩] else us3):zN5 rp cap a bs bz cz zs B i p (adv bs p2) us vs:=by
 intro g c w hwz hB hr hd
 obtain ⟨i0,hi0,hz0,hz1,hz2⟩:=zl zBu
 have HI:=zB hi0
 have HZ:=zB (And.intro hz0 (And.intro hz1 hz2))
 have hg:=hr.lt
 have hjI:(i:Int)<(zs.length:Int):=by omega
 obtain ⟨h0,h1,h2,h3⟩:=hwz i hi
 rw [ho] at h0 h1 h2 h3
 simp only [Nat.zero_add] at h0 h1 h2 h3
 have hl3:us3.length<=90001:=by rw [hu3]; simp; omega
 have HR:=zB hr
 have HD:=zB hd
 have HC:=zB hc
 have HWZ:=zB hwz
 have HU3:=zB hu3
 have HVS:=zB hvs
 clear hi0 hz0 hz1 hz2 hr hd hc hwz ho hu3 hvs
 go_enter Tryz.func152,Tryz.ntmps152
 go_wp2_with fail
 have HB0:=zB (show Below w.heap.size w ((w.alloc (.cells #[.int .i64 k,.string t,.int .i64 (ja:Int),.int .i64 (jb:Int)] 81)).alloc (.cells #[.int .i64 k,.string t,.int .i64 0,.int .i64 0] 81)) from (zC _ _).alloc (by simp) _)
 obtain ⟨W0,hW0⟩:∃ W0,W0=((w.alloc (.cells #[.int .i64 k,.string t,.int .i64 (ja:Int),.int .i64 (jb:Int)] 81)).alloc (.cells #[.int .i64 k,.string t,.int .i64 0,.int .i64 0] 81)):=⟨_,rfl⟩
 have HN0:=zB (show ZC W0 w.heap.size ⟨k,t,(ja:Int),(jb:Int)⟩ by rw [hW0]; exact ⟨by simp [go_sem],by simp [go_sem],by simp [go_sem],by simp [go_sem],by simp [go_sem],by simp [go_sem]⟩)
 have HM0:=zB (show ZC W0 (w.heap.size+1) ⟨k,t,0,0⟩ by rw [hW0]; exact ⟨by simp [go_sem],by simp [go_sem],by simp [go_sem],by simp [go_sem],by simp [go_sem],by simp [go_sem]⟩)
 have HK0:=zB (show K2 w W0 rp g by rw [hW0]; exact K2.ofB (zA HB0))
 have HR0:=zB (show Zs W0 B g c us by rw [hW0]; exact (zA HR).below (zA HB0))
 have HD0:=zB (show RdS W0 rp a cap bs p by rw [hW0]; exact (zA HD).below (zA HB0))
 have HW0:=zB (show Zu W0 bz 0 zs by rw [hW0]; exact (zA HWZ).below (zA HB0) (by omega))
 have z0:w.heap.size+2=W0.heap.size:=by rw [hW0]; simp
 rw [<- hW0]
 obtain ⟨n0,n1,n2,n3,_,_⟩:=zA HN0
 obtain ⟨m0,m1,m2,m3,f2,f3⟩:=zA HM0
 simp only at n0 n1 n2 n3 m0 m1 m2 m3
 clear HR HD HWZ HB0 hW0 h0 h1 h2 h3
 rcases zA HC with ⟨hk,hu2,hp2,hme⟩ | ⟨hk,hrec,hme⟩ | ⟨hk,p1,us1,hrec,hrec2,hme,hl1⟩
 ·have HK:=zB hk
  have HME:=zB hme
  subst hu2
  subst hp2
  clear hk hme HC
  (with_reducible refine (zS (zA HK) 0 rfl _).mono ?_)
  rintro e w' ⟨rfl,hw'⟩
  subst hw'
  go_wp2_with fail
  (with_reducible refine (zS (zA HK) 0 rfl _).mono ?_)
  rintro e W2 ⟨rfl,hw'⟩
  have HM2:=zB (show ZC W2 (w.heap.size+1) m by rw [zA HME,hw']; exact zA HM0)
  obtain ⟨g2,hg2⟩:∃ g2,g2=g:=⟨_,rfl⟩
  obtain ⟨c2,hc2⟩:∃ c2,c2=c:=⟨_,rfl⟩
  have HR2:=zB (show Zs W2 B g2 c2 us2 by rw [hw',hg2,hc2]; exact zA HR0)
  have HD2:=zB (show RdS W2 rp a cap bs p2 by rw [hw']; exact zA HD0)
  have HK2:=zB (show K2 w W2 rp g by rw [hw']; exact zA HK0)
  have z2:w.heap.size+2<=W2.heap.size:=by rw [hw']; omega
  have hgg:g2=g\/w.heap.size+2<=g2:=Or.inl hg2
  have PR:zEz w rp cap a bs B g (adv bs p2) vs=zEz w rp cap a bs B g (adv bs p2) vs:=rfl
  rw [<- hc2]
  have hsl:Value.slice (some ⟨g,0,none⟩) us2.length c2=Value.slice (some ⟨g2,0,none⟩) us2.length c2:=by rw [hg2]
  rw [hsl]
  clear hg2 hc2 hsl PR hw' HM0 HN0 HR0 HD0 HW0 HK0 n0 n1 n2 n3 m0 m1 m2 m3 f2 f3
  obtain ⟨mk0,mk1,mk2,mk3,_,_⟩:=zA HM2
  have hl2:=(zA HR2).lt
  go_wp2_with (at_builtin; refine wpList_append_own_at _ rfl (.tmp 48) (.tmp 50) 26 rfl B 81 i0 _ 4 40 Tryz.underlying26 (zA HI) (zA HZ).1 (zA HZ).2.1 (zA HZ).2.2 rfl (by decide) _ us2.length (zJ us2) rfl ((zA HR2).below (zC _ _)) ⟨W2.heap.size,0,none⟩ 1 1 (zJ [m]) rfl rfl (ZB W2 m) (zX _) ?b1 ?b2 ?b3 ?next)
  case b1=>unfold maxLen; omega
  case b2=>omega
  case b3=>simp; omega
  case next=>
   intro v4 w4 hown4 hgrow4 hnil4 hat4
   obtain ⟨g4,c4,rfl,hr4⟩:=Zs.snoc hown4 (by simp [hnil4]) (zA HU3)
   have HR4:=zB hr4
   have hl4:=hr4.lt
   have hgr:World.grownBy _ w4 (some g2):=hgrow4
   have HD4:=zB (((zA HD2).below (zC W2 (.cells #[.int .i64 m.k,.string m.t,.int .i64 m.a,.int .i64 m.b] 81))).row hgr (by omega))
   have HK4:=zB (((zA HK2).trans (K2.ofB (zC W2 (.cells #[.int .i64 m.k,.string m.t,.int .i64 m.a,.int .i64 m.b] 81))) (Or.inl rfl)).row hgr (by omega))
   have hgg4:g4=g\/w.heap.size<=g4:=by simp [Value.ownBlock] at hat4; omega
   clear hown4 hgrow4 hgr hnil4 hr4 hat4 mk0 mk1 mk2 mk3 HM2 HR2 HD2 HK2
   go_wp2_with fail
   (with_reducible refine (zAC rp cap p2 a bs _ (zA HD4) hl).mono ?_)
   rintro e w5 ⟨⟨v,rfl,hv,HV⟩,H5,HP5⟩
   have z5:=(zA HP5).size
   have HR5:=zB ((zA HR4).kept (zA HP5) (by omega))
   have HK5:=zB ((zA HK4).trans (K2.of1 (g:=g) (zA HP5)) (Or.inl rfl))
   have z5':=(zA HK5).size
   clear HR4 HD4 HK4 HP5
   by_cases h6:v%6=5
   ·have e6:((v:Int)%6==5)=true:=by simp; omega
    have HV2:=zB (show vs=us3++[⟨6,⟨#[]⟩,(us3.length:Int)-1,0⟩] by rw [zA HVS,<- zA HV,if_pos h6]; rfl)
    clear h6 HVS
    go_wp2_with (at_builtin; refine wpList_append_own_at _ rfl (.tmp 56) (.tmp 61) 26 rfl B 81 i0 _ 4 40 Tryz.underlying26 (zA HI) (zA HZ).1 (zA HZ).2.1 (zA HZ).2.2 rfl (by decide) _ us3.length (zJ us3) rfl ((zA HR5).below (zC _ _)) ⟨w5.heap.size,0,none⟩ 1 1 (zJ [⟨6,⟨#[]⟩,(us3.length:Int)-1,0⟩]) rfl rfl (ZB w5 ⟨6,⟨#[]⟩,(us3.length:Int)-1,0⟩) (zX _) ?b1 ?b2 ?b3 ?next)
    case b1=>unfold maxLen; omega
    case b2=>omega
    case b3=>simp; omega
    case next=>
     intro v6 w6 hown6 hgrow6 hnil6 hat6
     obtain ⟨g6,c6,rfl,hr6⟩:=Zs.snoc hown6 (by simp [hnil6]) (zA HV2)
     have HR6:=zB hr6
     have hgr:World.grownBy _ w6 (some g4):=hgrow6
     have HD6:=zB (((zA H5).below (zC w5 (.cells #[.int .i64 6,.string ⟨#[]⟩,.int .i64 ((us3.length:Int)-1),.int .i64 0] 81))).row hgr (by omega))
     have HK6:=zB (((zA HK5).trans (K2.ofB (zC w5 _)) (Or.inl rfl)).row hgr (by omega))
     have hgg6:g6=g\/w.heap.size<=g6:=by simp [Value.ownBlock] at hat6; omega
     clear hown6 hgrow6 hgr hnil6 hr6 hat6
     go_wp2_with fail
     go_ret
     exact ⟨g6,c6,rfl,HR6,hgg6,HD6,HK6⟩
   ·have e6:((v:Int)%6==5)=false:=by simp; omega
    obtain rfl:vs=us3:=by rw [zA HVS,<- zA HV,if_neg h6]
    clear h6 HVS HU3
    go_wp2_with fail
    go_ret
    exact ⟨g4,c4,rfl,HR5,hgg4,H5,HK5⟩
 ·have HK:=zB hk
  have HME:=zB hme
  have HREC:=zB hrec
  clear hk hme HC hrec
  (with_reducible refine (zS (zA HK) 1 rfl _).mono ?_)
  rintro e w' ⟨rfl,hw'⟩
  subst hw'
  go_wp2_with fail
  have HXC:=(zA HREC) g c _ (zA HW0) (by omega) (zA HR0) (zA HD0)
  (with_reducible refine HXC.mono ?_)
  clear HXC
  rintro e w5 ⟨g2,c2,rfl,HR5,hg5,HD5,HK5⟩
  have z5:=(zA HK5).size
  have hl5:=(zA HR5).lt
  have HN5:=zB ((zA HK5).nod (zA HN0) (by omega) (by omega))
  have HM5:=zB ((zA HK5).nod (zA HM0) (by omega) (by omega))
  have HK6:=zB ((zA HK0).trans (zA HK5) (Or.inl rfl))
  clear n0 n1 n2 n3 m0 m1 m2 m3 f2 f3 HN0 HM0 HK5 HK0 HR0 HD0 HW0
  obtain ⟨n0,n1,n2,n3,_,_⟩:=zA HN5
  obtain ⟨m0,m1,m2,m3,f2,f3⟩:=zA HM5
  simp only at n0 n1 n2 n3 m0 m1 m2 m3
  go_wp2_with fail
  (with_reducible refine (zS (zA HK) 1 rfl _).mono ?_)
  rintro e W2 ⟨rfl,hw'⟩
  have HM2:=zB (show ZC W2 (w.heap.size+1) m by rw [zA HME,hw']; exact (zA HM5).set2 _)
  have HR2:=zB (show Zs W2 B g2 c2 us2 by rw [hw']; exact (zA HR5).set _ _ _ (by omega))
  have HD2:=zB (show RdS W2 rp a cap bs p2 by rw [hw']; exact (zA HD5).set _ _ _ (by omega))
  have HK2:=zB (show K2 w W2 rp g by rw [hw']; exact (zA HK6).set _ (by omega))
  have z2:w.heap.size+2<=W2.heap.size:=by rw [hw']; simp [World.setCell]; omega
  have hgg:g2=g\/w.heap.size+2<=g2:=by omega
  clear hw' HM5 HN5 HR5 HD5 HK6 n0 n1 n2 n3 m0 m1 m2 m3 f2 f3
  obtain ⟨mk0,mk1,mk2,mk3,_,_⟩:=zA HM2
  have hl2:=(zA HR2).lt
  go_wp2_with (at_builtin; refine wpList_append_own_at _ rfl (.tmp 48) (.tmp 50) 26 rfl B 81 i0 _ 4 40 Tryz.underlying26 (zA HI) (zA HZ).1 (zA HZ).2.1 (zA HZ).2.2 rfl (by decide) _ us2.length (zJ us2) rfl ((zA HR2).below (zC _ _)) ⟨W2.heap.size,0,none⟩ 1 1 (zJ [m]) rfl rfl (ZB W2 m) (zX _) ?b1 ?b2 ?b3 ?next)
  case b1=>unfold maxLen; omega
  case b2=>omega
  case b3=>simp; omega
  case next=>
   intro v4 w4 hown4 hgrow4 hnil4 hat4
   obtain ⟨g4,c4,rfl,hr4⟩:=Zs.snoc hown4 (by simp [hnil4]) (zA HU3)
   have HR4:=zB hr4
   have hl4:=hr4.lt
   have hgr:World.grownBy _ w4 (some g2):=hgrow4
   have HD4:=zB (((zA HD2).below (zC W2 (.cells #[.int .i64 m.k,.string m.t,.int .i64 m.a,.int .i64 m.b] 81))).row hgr (by omega))
   have HK4:=zB (((zA HK2).trans (K2.ofB (zC W2 (.cells #[.int .i64 m.k,.string m.t,.int .i64 m.a,.int .i64 m.b] 81))) (Or.inl rfl)).row hgr (by omega))
   have hgg4:g4=g\/w.heap.size<=g4:=by simp [Value.ownBlock] at hat4; omega
   clear hown4 hgrow4 hgr hnil4 hr4 hat4 mk0 mk1 mk2 mk3 HM2 HR2 HD2 HK2
   go_wp2_with fail
   (with_reducible refine (zAC rp cap p2 a bs _ (zA HD4) hl).mono ?_)
   rintro e w5 ⟨⟨v,rfl,hv,HV⟩,H5,HP5⟩
   have z5:=(zA HP5).size
   have HR5:=zB ((zA HR4).kept (zA HP5) (by omega))
   have HK5:=zB ((zA HK4).trans (K2.of1 (g:=g) (zA HP5)) (Or.inl rfl))
   have z5':=(zA HK5).size
   clear HR4 HD4 HK4 HP5
   by_cases h6:v%6=5
   ·have e6:((v:Int)%6==5)=true:=by simp; omega
    have HV2:=zB (show vs=us3++[⟨6,⟨#[]⟩,(us3.length:Int)-1,0⟩] by rw [zA HVS,<- zA HV,if_pos h6]; rfl)
    clear h6 HVS
    go_wp2_with (at_builtin; refine wpList_append_own_at _ rfl (.tmp 56) (.tmp 61) 26 rfl B 81 i0 _ 4 40 Tryz.underlying26 (zA HI) (zA HZ).1 (zA HZ).2.1 (zA HZ).2.2 rfl (by decide) _ us3.length (zJ us3) rfl ((zA HR5).below (zC _ _)) ⟨w5.heap.size,0,none⟩ 1 1 (zJ [⟨6,⟨#[]⟩,(us3.length:Int)-1,0⟩]) rfl rfl (ZB w5 ⟨6,⟨#[]⟩,(us3.length:Int)-1,0⟩) (zX _) ?b1 ?b2 ?b3 ?next)
    case b1=>unfold maxLen; omega
    case b2=>omega
    case b3=>simp; omega
    case next=>
     intro v6 w6 hown6 hgrow6 hnil6 hat6
     obtain ⟨g6,c6,rfl,hr6⟩:=Zs.snoc hown6 (by simp [hnil6]) (zA HV2)
     have HR6:=zB hr6
     have hgr:World.grownBy _ w6 (some g4):=hgrow6
     have HD6:=zB (((zA H5).below (zC w5 (.cells #[.int .i64 6,.string ⟨#[]⟩,.int .i64 ((us3.length:Int)-1),.int .i64 0] 81))).row hgr (by omega))
     have HK6:=zB (((zA HK5).trans (K2.ofB (zC w5 _)) (Or.inl rfl)).row hgr (by omega))
     have hgg6:g6=g\/w.heap.size<=g6:=by simp [Value.ownBlock] at hat6; omega
     clear hown6 hgrow6 hgr hnil6 hr6 hat6
     go_wp2_with fail
     go_ret
     exact ⟨g6,c6,rfl,HR6,hgg6,HD6,HK6⟩
   ·have e6:((v:Int)%6==5)=false:=by simp; omega
    obtain rfl:vs=us3:=by rw [zA HVS,<- zA HV,if_neg h6]
    clear h6 HVS HU3
    go_wp2_with fail
    go_ret
    exact ⟨g4,c4,rfl,HR5,hgg4,H5,HK5⟩
 ·have HK:=zB hk
  have HME:=zB hme
  have HREC:=zB hrec
  have HREC2:=zB hrec2
  subst hme
  clear HME hk HC hrec hrec2
  (with_reducible refine (zS (zA HK) 2 rfl _).mono ?_)
  rintro e w' ⟨rfl,hw'⟩
  subst hw'
  go_wp2_with fail
  have HXC:=(zA HREC) g c _ (zA HW0) (by omega) (zA HR0) (zA HD0)
  (with_reducible refine HXC.mono ?_)
  clear HXC
  rintro e w5 ⟨g1,c1,rfl,HR5,hg5,HD5,HK5⟩
  have z5:=(zA HK5).size
  have hl5:=(zA HR5).lt
  have HN5:=zB ((zA HK5).nod (zA HN0) (by omega) (by omega))
  have HM5:=zB ((zA HK5).nod (zA HM0) (by omega) (by omega))
  have HW5:=zB (zHK (zA HW0) ((zA HK5).block bz (by omega) (by omega) (by omega)))
  have HK6:=zB ((zA HK0).trans (zA HK5) (Or.inl rfl))
  clear n0 n1 n2 n3 m0 m1 m2 m3 f2 f3 HN0 HM0 HK5 HK0 HR0 HD0 HW0
  obtain ⟨n0,n1,n2,n3,_,_⟩:=zA HN5
  obtain ⟨m0,m1,m2,m3,f2,f3⟩:=zA HM5
  simp only at n0 n1 n2 n3 m0 m1 m2 m3
  go_wp2_with fail
  (with_reducible refine (zS (zA HK) 2 rfl _).mono ?_)
  rintro e W6 ⟨rfl,hw'⟩
  have HM6:=zB (show ZC W6 (w.heap.size+1) ⟨k,t,(us1.length:Int)-1,0⟩ by rw [hw']; exact (zA HM5).set2 _)
  have HN6:=zB (show ZC W6 w.heap.size ⟨k,t,(ja:Int),(jb:Int)⟩ by rw [hw']; exact (zA HN5).other _ (by omega))
  have HR6:=zB (show Zs W6 B g1 c1 us1 by rw [hw']; exact (zA HR5).set _ _ _ (by omega))
  have HD6:=zB (show RdS W6 rp a cap bs p1 by rw [hw']; exact (zA HD5).set _ _ _ (by omega))
  have HK7:=zB (show K2 w W6 rp g by rw [hw']; exact (zA HK6).set _ (by omega))
  have HW6:=zB (show Zu W6 bz 0 zs by rw [hw']; exact zHK (zA HW5) (Below.heap_setCell _ _ _ _ (by show bz≠w.heap.size+1; omega)))
  have z6:w5.heap.size=W6.heap.size:=by rw [hw']; simp [World.setCell]
  clear hw' HM5 HN5 HR5 HD5 HK6 HW5 n0 n1 n2 n3 m0 m1 m2 m3 f2 f3
  obtain ⟨n0,n1,n2,n3,_,_⟩:=zA HN6
  simp only at n0 n1 n2 n3
  go_wp2_with fail
  have HXC:=(zA HREC2) g1 c1 W6 (zA HW6) (by omega) (zA HR6) (zA HD6)
  (with_reducible refine HXC.mono ?_)
  clear HXC
  rintro e w7 ⟨g2,c2,rfl,HR7,hg7,HD7,HK8⟩
  have z7:=(zA HK8).size
  have hl7:=(zA HR7).lt
  have HM7:=zB ((zA HK8).nod (zA HM6) (by omega) (by omega))
  have HK9:=zB ((zA HK7).trans (zA HK8) (by omega))
  obtain ⟨m0,m1,m2,m3,f2,f3⟩:=zA HM7
  simp only at m0 m1 m2 m3
  obtain ⟨W2,hw'⟩:∃ W2,W2=w7.setCell ⟨w.heap.size+1,3,none⟩ (.int .i64 ((us2.length:Int)-1)):=⟨_,rfl⟩
  have HM2:=zB (show ZC W2 (w.heap.size+1) ⟨k,t,(us1.length:Int)-1,(us2.length:Int)-1⟩ by rw [hw']; exact (zA HM7).set3 _)
  have HR2:=zB (show Zs W2 B g2 c2 us2 by rw [hw']; exact (zA HR7).set _ _ _ (by omega))
  have HD2:=zB (show RdS W2 rp a cap bs p2 by rw [hw']; exact (zA HD7).set _ _ _ (by omega))
  have HK2:=zB (show K2 w W2 rp g by rw [hw']; exact (zA HK9).set _ (by omega))
  have z2:w.heap.size+2<=W2.heap.size:=by rw [hw']; simp [World.setCell]; omega
  have hgg:g2=g\/w.heap.size+2<=g2:=by omega
  have hz27:w7.heap.size=W2.heap.size:=by rw [hw']; simp [World.setCell]
  have HWE:=zB hw'
  clear hw' HN6 HM6 HR6 HD6 HK7 HW6 HR7 HD7 HK8 HK9 n0 n1 n2 n3
  have hl2:=(zA HR2).lt
  go_wp2_with (at_builtin; rw [<- zA HWE]; refine wpList_append_own_at _ rfl (.tmp 48) (.tmp 50) 26 rfl B 81 i0 _ 4 40 Tryz.underlying26 (zA HI) (zA HZ).1 (zA HZ).2.1 (zA HZ).2.2 rfl (by decide) _ us2.length (zJ us2) rfl ((zA HR2).below (zC _ _)) ⟨W2.heap.size,0,none⟩ 1 1 (zJ [⟨k,t,(us1.length:Int)-1,(us2.length:Int)-1⟩]) rfl rfl (ZB W2 ⟨k,t,(us1.length:Int)-1,(us2.length:Int)-1⟩) (zX _) ?b1 ?b2 ?b3 ?next)
  case b1=>unfold maxLen; omega
  case b2=>omega
  case b3=>simp; omega
  case next=>
   intro v4 w4 hown4 hgrow4 hnil4 hat4
   obtain ⟨g4,c4,rfl,hr4⟩:=Zs.snoc hown4 (by simp [hnil4]) (zA HU3)
   have HR4:=zB hr4
   have hl4:=hr4.lt
   have hgr:World.grownBy _ w4 (some g2):=hgrow4
   have HD4:=zB (((zA HD2).below (zC W2 (.cells #[.int .i64 k,.string t,.int .i64 ((us1.length:Int)-1),.int .i64 ((us2.length:Int)-1)] 81))).row hgr (by omega))
   have HK4:=zB (((zA HK2).trans (K2.ofB (zC W2 (.cells #[.int .i64 k,.string t,.int .i64 ((us1.length:Int)-1),.int .i64 ((us2.length:Int)-1)] 81))) (Or.inl rfl)).row hgr (by omega))
   have hgg4:g4=g\/w.heap.size<=g4:=by simp [Value.ownBlock] at hat4; omega
   clear hown4 hgrow4 hgr hnil4 hr4 hat4 m0 m1 m2 m3 f2 f3 HM7 HWE HM2 HR2 HD2 HK2
   go_wp2_with fail
   (with_reducible refine (zAC rp cap p2 a bs _ (zA HD4) hl).mono ?_)
   rintro e w5 ⟨⟨v,rfl,hv,HV⟩,H5,HP5⟩
   have z5:=(zA HP5).size
   have HR5:=zB ((zA HR4).kept (zA HP5) (by omega))
   have HK5:=zB ((zA HK4).trans (K2.of1 (g:=g) (zA HP5)) (Or.inl rfl))
   have z5':=(zA HK5).size
   clear HR4 HD4 HK4 HP5
   by_cases h6:v%6=5
   ·have e6:((v:Int)%6==5)=true:=by simp; omega
    have HV2:=zB (show vs=us3++[⟨6,⟨#[]⟩,(us3.length:Int)-1,0⟩] by rw [zA HVS,<- zA HV,if_pos h6]; rfl)
    clear h6 HVS
    go_wp2_with (at_builtin; refine wpList_append_own_at _ rfl (.tmp 56) (.tmp 61) 26 rfl B 81 i0 _ 4 40 Tryz.underlying26 (zA HI) (zA HZ).1 (zA HZ).2.1 (zA HZ).2.2 rfl (by decide) _ us3.length (zJ us3) rfl ((zA HR5).below (zC _ _)) ⟨w5.heap.size,0,none⟩ 1 1 (zJ [⟨6,⟨#[]⟩,(us3.length:Int)-1,0⟩]) rfl rfl (ZB w5 ⟨6,⟨#[]⟩,(us3.length:Int)-1,0⟩) (zX _) ?b1 ?b2 ?b3 ?next)
    case b1=>unfold maxLen; omega
    case b2=>omega
    case b3=>simp; omega
    case next=>
     intro v6 w6 hown6 hgrow6 hnil6 hat6
     obtain ⟨g6,c6,rfl,hr6⟩:=Zs.snoc hown6 (by simp [hnil6]) (zA HV2)
     have HR6:=zB hr6
     have hgr:World.grownBy _ w6 (some g4):=hgrow6
     have HD6:=zB (((zA H5).below (zC w5 (.cells #[.int .i64 6,.string ⟨#[]⟩,.int .i64 ((us3.length:Int)-1),.int .i64 0] 81))).row hgr (by omega))
     have HK6:=zB (((zA HK5).trans (K2.ofB (zC w5 _)) (Or.inl rfl)).row hgr (by omega))
     have hgg6:g6=g\/w.heap.size<=g6:=by simp [Value.ownBlock] at hat6; omega
     clear hown6 hgrow6 hgr hnil6 hr6 hat6
     go_wp2_with fail
     go_ret
     exact ⟨g6,c6,rfl,HR6,hgg6,HD6,HK6⟩
   ·have e6:((v:Int)%6==5)=false:=by simp; omega
    obtain rfl:vs=us3:=by rw [zA HVS,<- zA HV,if_neg h6]
    clear h6 HVS HU3
    go_wp2_with fail
    go_ret
    exact ⟨g4,c4,rfl,HR5,hgg4,H5,HK5⟩
end Go.Proofs.YtfboipappaonhaaGreat
namespace Go.Proofs.YtfboipappaonhaaGreat
set_option linter.unusedSimpArgs false
set_option linter.unusedVariables false
set_option maxHeartbeats 16000000
set_option maxRecDepth 100000
open Go.RowKit
open Go.Deep (BT)
theorem zLG (rp cap:Nat) (a:Option Addr) (bs:List UInt8) (hl:bs.length<=1200) (bz cz:Nat) (zs:List zD) (B:Nat) (hbz:bz<B) (hrp:rp<B) (hne:bz≠rp) (hzl:zs.length<=20000):∀ (T:ET),Sh T->∀ (s:Nat) (us:List zD) (p:Nat),zBr zs T s->s+tsz T<=zs.length->us.length+2*tsz T<=80000 ->
  zN5 rp cap a bs bz cz zs B (s+tsz T-1) p (moT bs T p).1 us (us++nd (moT bs T p).2 us.length):=by
 intro T
 induction T with
 | nil=>intro h; exact h.elim
 | node b o t l r ihl ihr=>
  rintro ⟨rfl,h⟩ s us p ⟨h1,h2,h3⟩ hz hlen
  simp only [tsz] at hz hlen
  have e:s+tsz (.node b 0 t l r)-1=s+tsz l+tsz r:=by simp only [tsz]; omega
  rw [e]
  have hcell:∀ ja jb:Nat,(if zU (b:Int)=0 then (0:Int) else ((s+tsz l:Nat):Int)-1)=(ja:Int)->(if zU (b:Int)=2 then ((s+tsz l+tsz r:Nat):Int)-1 else 0)=(jb:Int)->atN zs (s+tsz l+tsz r)=⟨(b:Int),t,(ja:Int),(jb:Int)⟩:=fun ja jb ha hb=>by
   rw [h3,tN,ha,hb]
  have z1:=zHJ bs l p
  have z2:=zHJ bs r (moT bs l p).1
  obtain ⟨L,hL⟩:∃ L,L=(moT bs l p).2:=⟨_,rfl⟩
  obtain ⟨p1,hp1⟩:∃ p1,p1=(moT bs l p).1:=⟨_,rfl⟩
  obtain ⟨R,hR⟩:∃ R,R=(moT bs r p1).2:=⟨_,rfl⟩
  obtain ⟨p2,hp2⟩:∃ p2,p2=(moT bs r p1).1:=⟨_,rfl⟩
  have em:moT bs (.node b 0 t l r) p=(adv bs p2,if nxt bs p2%6=5 then .node 6 0 ByteArray.empty (.node b 0 t L R) .nil else .node b 0 t L R):=by
   simp only [moT,<- hp1,<- hL,<- hp2,<- hR]
  rw [em]
  rw [<- hp1] at z2
  rw [<- hL] at z1
  rw [<- hR] at z2
  obtain ⟨us1,hu1⟩:∃ us1,us1=us++nd L us.length:=⟨_,rfl⟩
  have hl1:us1.length=us.length+tsz L:=by rw [hu1,List.length_append,zi]
  obtain ⟨us2,hu2⟩:∃ us2,us2=us1++nd R us1.length:=⟨_,rfl⟩
  have hl2:us2.length=us.length+tsz L+tsz R:=by rw [hu2,List.length_append,zi]; omega
  obtain ⟨us3,hu3⟩:∃ us3,us3=us2++[tN b t L R us.length]:=⟨_,rfl⟩
  have hl3:us3.length=us.length+tsz L+tsz R+1:=by rw [hu3,List.length_append,hl2]; rfl
  have hnd:us++nd (.node b 0 t L R) us.length=us3:=by
   rw [hu3,hu2,hl1,hu1]
   simp [nd]
  have hvs:us++nd (adv bs p2,if nxt bs p2%6=5 then .node 6 0 ByteArray.empty (.node b 0 t L R) .nil else .node b 0 t L R).2 us.length=if nxt bs p2%6=5 then us3++[⟨6,ByteArray.empty,(us3.length:Int)-1,0⟩] else us3:=by
   simp only
   split
   ·have:us++nd (.node 6 0 ByteArray.empty (.node b 0 t L R) .nil) us.length=(us++nd (.node b 0 t L R) us.length)++[tN 6 ByteArray.empty (.node b 0 t L R) .nil us.length]:=by
     rw [List.append_assoc]
     congr 1
     simp [nd]
    rw [this,hnd]
    have:tN 6 ByteArray.empty (.node b 0 t L R) .nil us.length=⟨6,ByteArray.empty,(us3.length:Int)-1,0⟩:=by
     unfold tN
     rw [if_neg (by decide),if_neg (by decide),hl3]
     simp only [tsz]
     congr 1
     omega
    rw [this]
   ·exact hnd
  rcases h with ⟨hk,rfl,rfl⟩ | ⟨hk,hsl,rfl⟩ | ⟨hk,hsl,hsr⟩
  ·have hLn:L = .nil:=hL
   have hpp:p1=p:=hp1
   subst hpp
   have hRn:R = .nil:=hR
   have hpq:p2=p1:=hp2
   subst hLn hRn hpq
   have e1:us1=us:=by rw [hu1]; simp [nd]
   have e2:us2=us:=by rw [hu2,e1]; simp [nd]
   refine zLF rp cap a bs hl bz cz _ zs (b:Int) t 0 0 B p2 p2 us us2 us3 _ _ hbz hrp hne (by simp only [tsz] at hz ⊢; omega) hzl (hcell 0 0 (by rw [if_pos hk]; rfl) (by rw [if_neg (by omega)]; rfl)) (by omega) (by simp only [tsz] at hl2; omega) (Or.inl ⟨hk,e2,rfl,?_⟩) hu3 hvs
   unfold tN
   rw [if_pos hk,if_neg (by omega)]
  ·have hp:=hsl.pos
   have hRn:R = .nil:=hR
   have hpq:p2=p1:=hp2
   subst hRn hpq
   have e2:us2=us1:=by rw [hu2]; simp [nd]
   refine zLF rp cap a bs hl bz cz _ zs (b:Int) t (s+tsz l-1) 0 B p p2 us us2 us3 _ _ hbz hrp hne (by simp only [tsz] at hz ⊢; omega) hzl (hcell _ 0 (by rw [if_neg (by omega)]; omega) (by rw [if_neg (by omega)]; rfl)) (by omega) (by simp only [tsz] at hl2; omega) (Or.inr (Or.inl ⟨hk,?_,?_⟩)) hu3 hvs
   ·rw [e2,hu1,hL,hp1]
    exact ihl hsl s us p h1 (by omega) (by omega)
   ·unfold tN
    rw [if_neg (by omega),if_neg (by omega),e2,hl1]
  ·have hp:=hsl.pos
   have hq:=hsr.pos
   refine zLF rp cap a bs hl bz cz _ zs (b:Int) t (s+tsz l-1) (s+tsz l+tsz r-1) B p p2 us us2 us3 _ _ hbz hrp hne (by omega) hzl (hcell _ _ (by rw [if_neg (by omega)]; omega) (by rw [if_pos hk]; omega)) (by omega) (by omega) (Or.inr (Or.inr ⟨hk,p1,us1,?_,?_,?_,by omega⟩)) hu3 hvs
   ·rw [hu1,hL,hp1]
    exact ihl hsl s us p h1 (by omega) (by omega)
   ·rw [hu2,hR,hp2]
    exact ihr hsr (s+tsz l) us1 p1 h2 (by omega) (by omega)
   ·unfold tN
    rw [if_neg (by omega),if_pos hk,hl1,hl2]
end Go.Proofs.YtfboipappaonhaaGreat
namespace Go.Proofs.YtfboipappaonhaaGreat
set_option linter.unusedSimpArgs false
set_option linter.unusedVariables false
set_option maxHeartbeats 16000000
set_option maxRecDepth 100000
open Go.RowKit
def zR (l:List ByteArray):List Value:=l.map fun s=>.string s
theorem zBc (l l':List ByteArray):zR (l++l')=zR l++zR l':=by simp [zR]
theorem zm (l:List ByteArray):∀ u∈zR l,u.oneCell'=true:=by
 intro u hu
 simp only [zR,List.mem_map] at hu
 obtain ⟨b,_,rfl⟩:=hu
 rfl
theorem zJP:(Tryz.prog.info? 9).map (fun i=>(i.zero,i.size,i.bytes))=some (some (.string ⟨#[]⟩),1,16):=by kernel_rfl
theorem zAs (w:World) (t:ByteArray):∀ j u,(zR [t])[j]?=some u->(w.alloc (.cells #[.string t] 9)).cell? ((⟨w.heap.size,0,none⟩:Addr).add j)=some u:=by
 intro j u hj
 rw [Addr.add_mid]
 have:=World.rangeAt_of_block (w:=w.alloc (.cells #[.string t] 9)) (b:=w.heap.size) (heap_alloc_new w _) 0 1
 exact this j u (by simpa [zR] using hj)
def ZH (w:World) (B:Nat) (v:Value) (ps:List ByteArray):Prop:=w.ownsRow B 9 1 v ps.length (zR ps)
theorem zDe {w:World} {B n:Nat} {e:TypeId} {size:Nat} {u:Value} {xs:List Value} (h:w.ownsRow B e size u n xs):∃ a c,u = .slice a n c:=by
 obtain ⟨_,⟨rfl,rfl⟩ | ⟨g,cap,cur,rfl,_⟩⟩:=h
 ·exact ⟨none,0,rfl⟩
 ·exact ⟨_,_,rfl⟩
theorem ZH.grown {w w':World} {B:Nat} {u:Value} {us:List ByteArray} {row:Option Nat} (h:ZH w B u us) (hg:w.grownBy w' row) (hne:∀ k,u.ownBlock=some k->row≠some k):ZH w' B u us:=
 World.ownsRow.kept h hg (by
  cases e:u.ownBlock with
  | none=>exact Or.inl rfl
  | some k=>exact Or.inr (fun x=>hne k e x.symm))
theorem ZH.below {w w':World} {B:Nat} {u:Value} {us:List ByteArray} (h:ZH w B u us) (hb:Below w.heap.size w w'):ZH w' B u us:=
 h.grown (row:=none) ⟨hb.os,hb.tape,hb.output,hb.size,fun i hi _=>hb.block i hi⟩ (fun k _ e=>by cases e)
theorem ZH.lt {w:World} {B:Nat} {u:Value} {us:List ByteArray} (h:ZH w B u us):∀ g,u.ownBlock=some g->B<=g/\g<w.heap.size:=fun g hg=>World.ownsRow.lt h g hg
theorem ZH.cells {w:World} {B g n c:Nat} {us:List ByteArray} (h:ZH w B (.slice (some ⟨g,0,none⟩) n c) us):∀ (j:Nat) x,us[j]?=some x->w.cell? ⟨g,0+j,none⟩=some (.string x):=by
 intro j x hj
 have hl:j<us.length:=(List.getElem?_eq_some_iff.1 hj).1
 obtain ⟨_,⟨h1,_⟩ | ⟨g',cap,cur,h1,h2⟩⟩:=h
 ·cases h1
 ·have hh:ZH w B (.slice (some ⟨g',0,none⟩) us.length cap) us:=⟨by assumption,Or.inr ⟨g',cap,cur,rfl,h2⟩⟩
  simp only [Value.slice.injEq,Option.some.injEq,Addr.mk.injEq] at h1
  obtain ⟨⟨rfl,_⟩,_⟩:=h1
  rw [Nat.zero_add,World.ownsRow.cellAt hh j (by omega)]
  simp [zR,hj]
def ZG (zs:List zu):List Value:=zs.flatMap fun x=>[.string x.t,.bool x.o,.bool x.i]
theorem Zj (xs ys:List zu):ZG (xs++ys)=ZG xs++ZG ys:=by simp [ZG]
theorem zIS:∀ (zs:List zu) (i:Nat),i<zs.length->(ZG zs)[i*3]?=some (.string (atW zs i).t)/\(ZG zs)[i*3+1]?=some (.bool (atW zs i).o)/\(ZG zs)[i*3+2]?=some (.bool (atW zs i).i)
 | [],i,h=>absurd h (Nat.not_lt_zero i)
 | o::r,0,_=>⟨rfl,rfl,rfl⟩
 | o::r,i+1,h=>by
  have ih:=zIS r i (by simpa using h)
  have e:∀ j,(ZG (o::r))[(i+1)*3+j]?=(ZG r)[i*3+j]?:=fun j=>by
   have:(i+1)*3+j=(i*3+j)+3:=by omega
   rw [this]
   rfl
  exact ⟨(e 0).trans ih.1,(e 1).trans ih.2.1,(e 2).trans ih.2.2⟩
theorem zAI (zs:List zu):∀ u∈ZG zs,u.oneCell'=true:=by
 intro u hu
 simp only [ZG,List.mem_flatMap] at hu
 obtain ⟨o,_,ho⟩:=hu
 simp at ho
 rcases ho with rfl | rfl | rfl <;> rfl
theorem zQr:(Tryz.prog.info? 54).map (fun i=>(i.zero,i.size,i.bytes))=some (some (.agg #[.string ⟨#[]⟩,.bool false,.bool false]),3,24):=by kernel_rfl
theorem zB4 (w:World) (x:zu):∀ j u,(ZG [x])[j]?=some u->(w.alloc (.cells #[.string x.t,.bool x.o,.bool x.i] 54)).cell? ((⟨w.heap.size,0,none⟩:Addr).add j)=some u:=by
 intro j u hj
 rw [Addr.add_mid]
 have:=World.rangeAt_of_block (w:=w.alloc (.cells #[.string x.t,.bool x.o,.bool x.i] 54)) (b:=w.heap.size) (heap_alloc_new w _) 0 3
 exact this j u (by simpa [ZG] using hj)
def zBN (w:World) (B:Nat) (u:Value) (us:List zu):Prop:=w.ownsRow B 54 3 u us.length (ZG us)
theorem zBY {w:World} {B:Nat} {u:Value} {us:List zu} (h:zBN w B u us):∃ a c,u = .slice a us.length c:=by
 obtain ⟨_,⟨h1,h2⟩ | ⟨g,cap,cur,h1,_⟩⟩:=h
 ·exact ⟨none,0,by rw [h2]; exact h1⟩
 ·exact ⟨_,_,h1⟩
theorem zBN.below {w w':World} {B:Nat} {u:Value} {us:List zu} (h:zBN w B u us) (hb:Below w.heap.size w w'):zBN w' B u us:=
 World.ownsRow.kept h (zZ hb none) (by cases u.ownBlock with
 | none=>exact Or.inl rfl
 | some k=>exact Or.inr (by simp))
theorem zBN.lt {w:World} {B:Nat} {u:Value} {us:List zu} (h:zBN w B u us):∀ g,u.ownBlock=some g->B<=g/\g<w.heap.size:=fun g hg=>World.ownsRow.lt h g hg
def zPE (w:World) (g:Nat) (ws:List zu):Prop:=∀ i,i<ws.length->w.cell? ⟨g,i*3,none⟩=some (.string (atW ws i).t)/\w.cell? ⟨g,i*3+1,none⟩=some (.bool (atW ws i).o)/\w.cell? ⟨g,i*3+2,none⟩=some (.bool (atW ws i).i)
theorem zPE.below {w w':World} {g:Nat} {ws:List zu} {B:Nat} (h:zPE w g ws) (hb:Below B w w') (hB:g<B):zPE w' g ws:=fun i hi=>by
 obtain ⟨h0,h1,h2⟩:=h i hi
 exact ⟨(hb.cell (p:=⟨g,_,none⟩) hB).trans h0,(hb.cell (p:=⟨g,_,none⟩) hB).trans h1,(hb.cell (p:=⟨g,_,none⟩) hB).trans h2⟩
theorem zBN.ops {w:World} {B g c:Nat} {us:List zu} (h:zBN w B (.slice (some ⟨g,0,none⟩) us.length c) us):zPE w g us:=fun i hi=>by
 obtain ⟨c0,c1,c2⟩:=zIS us i hi
 have e:=fun j (hj:j<3)=>World.ownsRow.cellAt h (i*3+j) (by omega)
 exact ⟨by simpa using (e 0 (by omega)).trans c0,by simpa using (e 1 (by omega)).trans c1,by simpa using (e 2 (by omega)).trans c2⟩
def zKM (w:World) (B:Nat) (u:Value) (vs:List zu) (x:Ending) (w':World):Prop:=
 ∃ u',x = .returned u'/\Hid (zBN w' B u' vs)/\Hid (w.grownBy w' u.ownBlock)/\Hid (u'.ownBlock=u.ownBlock\/∃ k,u'.ownBlock=some k/\w.heap.size<=k)
theorem zKM.join {w w1:World} {B:Nat} {u u1:Value} {vs:List zu} (h2:w.grownBy w1 u.ownBlock) (h3:u1.ownBlock=u.ownBlock\/∃ k,u1.ownBlock=some k/\w.heap.size<=k) {x:Ending} {w':World} (hp:zKM w1 B u1 vs x w'):zKM w B u vs x w':=by
 obtain ⟨u',rfl,p1,p2,p3⟩:=hp
 exact ⟨u',rfl,p1,zB (zO h2 (zA p2) h3),zB (ZN h2 h3 _ (zA p3))⟩
end Go.Proofs.YtfboipappaonhaaGreat
