import Derived.Deep.QuietTactic
import Derived.BigQuiet
import Derived.Test.YtgiemobdmbijiaaGreatDoorN11
import Derived.Test.YtgiemobdmbijiaaGreatDoorN12
import Derived.Test.YtgiemobdmbijiaaGreatDoorN31
import Derived.Test.YtgiemobdmbijiaaGreatDoorN32
namespace Go.Proofs.YtgiemobdmbijiaaGreatDoor
set_option linter.unusedSimpArgs false
set_option linter.unusedVariables false
set_option maxHeartbeats 16000000
set_option maxRecDepth 100000
theorem zBX {ns:List OpR} {ts:List zT} {i n:Nat} (h:i < n):atI (Zn ns ts n) i = zd ns ts i:=by
 simp [atI,Zn,List.getD,h]
def TkF (ns:List OpR) (ts:List zT) (i:Nat):Prop:=
 ((atT ts i).k = 3 /\ (1 <= zd ns ts i /\ zd ns ts i <= 3) /\ sgT ns ts i = ((zd ns ts i).toNat + 2,(atT ts i).t) /\ ∃ j,fnd ns (atT ts i).t (zd ns ts i) = some j /\ sLv ns (sgT ns ts i) = (atO ns j).l /\ sSo ns (sgT ns ts i) = srt (atO ns j).k (atO ns j).sd) \/
 ((atT ts i).k ≠ 3 /\ zd ns ts i = 0 /\ ¬ (3 <= (sgT ns ts i).1 /\ (sgT ns ts i).1 <= 5))
theorem zPk {ns:List OpR} {t:ByteArray} {r:Int} (h:Zl ns t r = true) (hr:1 <= r /\ r <= 3):∃ j,fnd ns t r = some j /\ sLv ns (r.toNat + 2,t) = (atO ns j).l /\ sSo ns (r.toNat + 2,t) = srt (atO ns j).k (atO ns j).sd:=by
 have e:((r.toNat + 2:Nat):Int) - 2 = r:=by omega
 have hk:=zHp h e
 cases hf:fnd ns t r with
 | none=>
  unfold knB at hk
  rw [e,hf] at hk
  cases hk
 | some j=>
  have hA:opA ns (rt (r.toNat + 2) t) = atO ns j:=by
   unfold opA
   simp only [rt]
   rw [e,hf]
  refine ⟨j,rfl,?_,?_⟩
  ·rw [zOs (by omega) hk,hA]
  ·unfold sSo
   simp only
   rw [hA]
theorem zPI {ns:List OpR} {ts:List zT} {i:Nat} (hr:0 <= zd ns ts i):TkF ns ts i:=by
 unfold TkF
 have key:((atT ts i).k = 3 /\ ((zd ns ts i = 1 /\ Zl ns (atT ts i).t 1 = true) \/ (zd ns ts i = 2 /\ Zl ns (atT ts i).t 2 = true) \/ (zd ns ts i = 3 /\ Zl ns (atT ts i).t 3 = true))) \/
   (((atT ts i).k = 1 \/ (atT ts i).k = 2 \/ (atT ts i).k = 4 \/ (atT ts i).k = 5 \/ (atT ts i).k = 7) /\ zd ns ts i = 0):=by
  unfold zd at hr ⊢
  generalize atT ts i = t at hr ⊢
  generalize zEY ts i = op at hr ⊢
  generalize decide (i + 1 = ts.length) = la at hr ⊢
  generalize zEX ns ts i = bh at hr ⊢
  cases bh
  ·rw [zIo] at hr ⊢
   by_cases k1:t.k = 1 \/ t.k = 2 \/ t.k = 4
   ·rw [if_pos k1]; exact Or.inr ⟨by omega,rfl⟩
   ·rw [if_neg k1] at hr ⊢
    by_cases c:t.k = 3 /\ Zl ns t.t 1 = true
    ·rw [if_pos c]; exact Or.inl ⟨c.1,Or.inl ⟨rfl,c.2⟩⟩
    ·rw [if_neg c] at hr; omega
  ·rw [zIp] at hr ⊢
   by_cases c2:t.k = 3 /\ Zl ns t.t 2 = true
   ·rw [if_pos c2]; exact Or.inl ⟨c2.1,Or.inr (Or.inl ⟨rfl,c2.2⟩)⟩
   ·rw [if_neg c2] at hr ⊢
    by_cases c3:t.k = 3 /\ Zl ns t.t 3 = true
    ·rw [if_pos c3]; exact Or.inl ⟨c3.1,Or.inr (Or.inr ⟨rfl,c3.2⟩)⟩
    ·rw [if_neg c3] at hr ⊢
     by_cases c5:t.k = 5 /\ 0 < op
     ·rw [if_pos c5]; exact Or.inr ⟨by omega,rfl⟩
     ·rw [if_neg c5] at hr ⊢
      by_cases c7:t.k = 7 /\ op = 0 /\ la = true
      ·rw [if_pos c7]; exact Or.inr ⟨by omega,rfl⟩
      ·rw [if_neg c7] at hr; omega
 rcases key with ⟨k3,h⟩ | ⟨hk,h0⟩
 ·left
  have es:sgT ns ts i = ((zd ns ts i).toNat + 2,(atT ts i).t):=by unfold sgT; rw [if_pos k3]
  have hb:Zl ns (atT ts i).t (zd ns ts i) = true /\ 1 <= zd ns ts i /\ zd ns ts i <= 3:=by
   rcases h with ⟨e,h⟩ | ⟨e,h⟩ | ⟨e,h⟩ <;> rw [e] <;> exact ⟨h,by decide,by decide⟩
  refine ⟨k3,hb.2,es,?_⟩
  rw [es]
  exact zPk hb.1 hb.2
 ·right
  refine ⟨by omega,h0,?_⟩
  unfold sgT
  rw [if_neg (by omega)]
  by_cases k4:(atT ts i).k = 4
  ·rw [if_pos k4]; decide
  ·rw [if_neg k4]
   by_cases k5:(atT ts i).k = 5
   ·rw [if_pos k5]; decide
   ·rw [if_neg k5]
    by_cases k7:(atT ts i).k = 7
    ·rw [if_pos k7]; decide
    ·rw [if_neg k7]
     simp only
     omega
theorem zPJ {ns:List OpR} {ts:List zT} {i:Nat} (h:TkF ns ts i) (hk:1 <= (atT ts i).k /\ (atT ts i).k <= 7 /\ (atT ts i).k ≠ 6) (op:Int):opS op (sgT ns ts i) = op + (if (atT ts i).k = 4 then 1 else 0) - (if (atT ts i).k = 5 then 1 else 0):=by
 rcases h with ⟨k3,hr,es,_⟩ | ⟨k3,h0,hn⟩
 ·rw [zf (by rw [es]; simp only; omega),if_neg (by omega),if_neg (by omega)]; omega
 ·unfold sgT
  rw [if_neg k3]
  by_cases k4:(atT ts i).k = 4
  ·rw [if_pos k4,zBL,if_pos k4,if_neg (by omega)]; omega
  ·rw [if_neg k4]
   by_cases k5:(atT ts i).k = 5
   ·rw [if_pos k5,zC8,if_neg k4,if_pos k5]; omega
   ·rw [if_neg k5,if_neg k4,if_neg k5]
    by_cases k7:(atT ts i).k = 7
    ·rw [if_pos k7,zf (by decide)]; omega
    ·rw [if_neg k7,zf (by simp only; omega)]; omega
theorem zPK (op:Int) (s:SyR):op - 1 <= opS op s /\ opS op s <= op + 1:=by
 unfold opS
 split <;> split <;> omega
theorem zMx:∀ (ss:List SyR) (op:Int),op - (ss.length:Int) <= opL op ss /\ opL op ss <= op + (ss.length:Int)
 | [],op=>by simp [opL]
 | s :: r,op=>by
  rw [Zd]
  have h1:=zMx r (opS op s)
  have h2:=zPK op s
  simp only [List.length_cons]
  omega
def zBu (x:Option (Nat × SyR)):Int:=match x with
 | none=>-1
 | some x=>(x.1:Int)
theorem zOE (ns:List OpR) (ts:List zT) (a n:Nat):rtF ns (sgs ns ts a (n + 1)) a 0 none = (if opS (opL 0 (sgs ns ts a n)) (sgT ns ts (a + n)) ≠ 0 \/ ¬ (3 <= (sgT ns ts (a + n)).1 /\ (sgT ns ts (a + n)).1 <= 5) then rtF ns (sgs ns ts a n) a 0 none else zA2 ns (rtF ns (sgs ns ts a n) a 0 none) (a + n,sgT ns ts (a + n))):=by
 rw [zCr,zv,zDA]
 rfl
theorem zKz (ns:List OpR) (ts:List zT) (a n:Nat):opL 0 (sgs ns ts a (n + 1)) = opS (opL 0 (sgs ns ts a n)) (sgT ns ts (a + n)):=by
 rw [zCr,zBd]
 rfl
theorem zK0 {ns:List OpR} {ts:List zT} {a n:Nat} {L R:List SyR} {s:SyR} (h:sgs ns ts a n = L ++ s :: R):s = sgT ns ts (a + L.length) /\ L.length < n /\ L = sgs ns ts a L.length /\ R = sgs ns ts (a + L.length + 1) (n - L.length - 1):=by
 have hl:=congrArg List.length h
 rw [zDA,List.length_append,List.length_cons] at hl
 have e:n = L.length + (R.length + 1):=by omega
 rw [e,zKf,zD3] at h
 have h2:=List.append_inj h (by rw [zDA])
 injection h2.2 with h3 h4
 refine ⟨h3.symm,by omega,h2.1.symm,?_⟩
 rw [<- h4]
 congr 1
 omega
theorem zOF {ns:List OpR} {ts:List zT} {a n:Nat} {x:Nat × SyR} (h:rtF ns (sgs ns ts a n) a 0 none = some x):a <= x.1 /\ x.1 < a + n /\ x.2 = sgT ns ts x.1 /\ (3 <= x.2.1 /\ x.2.1 <= 5):=by
 rcases zFn _ _ _ _ _ h with h | ⟨L,R,h1,h2,h3,_⟩
 ·cases h
 ·have:=zK0 h1
  refine ⟨by omega,by omega,?_,h3⟩
  rw [h2]; exact this.1
def shO (k:Nat) (x:Option (Nat × SyR)):Option (Nat × SyR):=x.map (fun x=>(x.1 + k,x.2))
theorem zHQ (ns:List OpR) (k:Nat):∀ (ss:List SyR) (i:Nat) (op:Int) (best:Option (Nat × SyR)),rtF ns ss (i + k) op (shO k best) = shO k (rtF ns ss i op best)
 | [],i,op,best=>rfl
 | s :: r,i,op,best=>by
  simp only [rtF]
  have e:i + k + 1 = (i + 1) + k:=by omega
  rw [e]
  rw [<- zHQ ns k r]
  congr 1
  split
  ·rfl
  ·cases best with
   | none=>rfl
   | some b=>
    simp only [zA2,shO,Option.map]
    split <;> rfl
theorem zMy (ns:List OpR) (ss:List SyR) (a:Nat):rtF ns ss a 0 none = shO a (rtF ns ss 0 0 none):=by
 have:=zHQ ns a ss 0 0 none
 rw [Nat.zero_add] at this
 exact this
end Go.Proofs.YtgiemobdmbijiaaGreatDoor
namespace Go.Proofs.YtgiemobdmbijiaaGreatDoor
set_option maxHeartbeats 16000000
set_option maxRecDepth 100000
open Go.RowKit
theorem zGP (b off cap:Nat) (xs:List zT) (w:World) (hm:xs.length + Zp xs xs.length <= 1048576) (hw:zEP w b off xs) (hB:b < w.heap.size) :
  Calls Tryz.prog 114 #[.slice (some ⟨b,off,none⟩) xs.length cap] w fun e w'=>e = .returned (.string ⟨(zAJ xs xs.length).toArray⟩) /\ Below w.heap.size w w':=by
 obtain ⟨i0,hi,hz0,hz1,hz2⟩:=info_parts zIm
 have HI:=zB hi
 have HZ:=zB (And.intro hz0 (And.intro hz1 hz2))
 have HW:=zB hw
 have HO:=zB (show (w.alloc (.cells #[] 5)).ownsRow w.heap.size 5 1 (.slice (some ⟨w.heap.size,0,none⟩) 0 0) 0 (cellsB (zAJ xs 0)) by
  show (w.alloc (.cells #[] 5)).ownsRow w.heap.size 5 1 (.slice (some ⟨w.heap.size,0,none⟩) 0 0) 0 []
  simpa using World.ownsRow_lit (base:=w.heap.size) (e:=5) (size:=1) w #[] 0 (Nat.le_refl _) (Nat.zero_le _) rfl)
 clear hi hz0 hz1 hz2 hw
 go_enter Tryz.func114,Tryz.ntmps114
 go_wp2
 go_loopw [3,4] (fun out i wr=>∃ (k go co n:Nat),k <= xs.length /\ i = .int .i64 (k:Int) /\ out = .slice (some ⟨go,0,none⟩) n co /\ Hid (n = (zAJ xs k).length) /\ Hid (wr.ownsRow w.heap.size 5 1 (.slice (some ⟨go,0,none⟩) n co) n (cellsB (zAJ xs k))) /\ Below w.heap.size w wr) (fun _ i _=>xs.length - (intOf i).toNat)
 case atStart=>exact ⟨0,w.heap.size,0,0,Nat.zero_le _,rfl,rfl,zB rfl,HO,zC _ _⟩
 case round=>
  clear HO
  obtain ⟨k,go,co,n,hk,rfl,rfl,hn,hown,hbel⟩:=hrel
  by_cases hlt:k < xs.length
  ·have hcell:=((zA HW) k hlt).below hbel hB
   obtain ⟨a0,a1,a2⟩:=hcell
   have hnn:=(zA hn).trans (zCp xs k)
   have htk:Zp xs (k + 1) <= Zp xs xs.length:=zFq xs _ _ (by omega)
   simp only [Zp,zNT] at htk
   obtain ⟨c1,w1,hrun1,hnew1,hb1⟩:=zFp wr (atT xs k).g
   have HN1:=zB hnew1
   have HB1:=zB hb1
   have b2:=(hb1.cell (p:=⟨b,off + k * 3 + 2,none⟩) (Nat.lt_of_lt_of_le hB hbel.size)).trans a2
   have hown1:=zB ((zA hown).kept (zAS hb1 none) (Or.inr (by simp [Value.ownBlock])))
   have hbel1:=hbel.trans (hb1.mono hbel.size)
   have HNN:=zB hnn
   have hnb:n + (atT xs k).g.size + (atT xs k).t.size <= 1048576:=by omega
   clear hnew1 hb1 hown hnn htk hbel a2
   go_wp2_with (at_builtin; refine wpList_append_own _ rfl (.tmp 12) (.tmp 18) 22 rfl w.heap.size 5 i0 _ 1 1 Tryz.underlying22 (zA HI) (zA HZ).1 (zA HZ).2.1 (zA HZ).2.2 rfl (by decide) _ n (cellsB (zAJ xs k)) rfl (zA hown1) ⟨wr.heap.size,0,none⟩ (atT xs k).g.size c1 (cellsB (atT xs k).g.data.toList) rfl (by rw [ZK]; simp) (zA HN1) (zFo _) ?b1 ?b2 ?b3 ?next)
   case b1=>unfold maxLen; omega
   case b2=>omega
   case b3=>exact hbel1.size
   case next=>
    intro v2 w2 hown2 hgrow2 hnil2
    have hgo:=(zA hown1).lt go rfl
    have hbel2:Below w.heap.size w w2:=hbel1.grown hgrow2 hbel1.size (fun q hq=>by simp [Value.ownBlock] at hq; omega)
    obtain ⟨g2,q2,rfl⟩:=ZS hown2 (by simp [hnil2])
    rw [<- zBC] at hown2
    have d2:w2.cell? ⟨b,off + k * 3 + 2,none⟩ = some (.string (atT xs k).t):=hgrow2.cell b2 (by simp [Value.ownBlock]; omega)
    obtain ⟨c3,w3,hrun3,hnew3,hb3⟩:=zFp w2 (atT xs k).t
    have HN3:=zB hnew3
    have hown3:=zB (hown2.kept (zAS hb3 none) (Or.inr (by simp [Value.ownBlock])))
    have hbel3:=hbel2.trans (hb3.mono hbel2.size)
    clear hown2 hgrow2 hnil2 hown1 HN1 HB1 hnew3 hb3 b2 hrun1 a0 a1
    go_wp2_with (at_builtin; refine wpList_append_own _ rfl (.tmp 20) (.tmp 26) 22 rfl w.heap.size 5 i0 _ 1 1 Tryz.underlying22 (zA HI) (zA HZ).1 (zA HZ).2.1 (zA HZ).2.2 rfl (by decide) _ (n + (atT xs k).g.size) _ rfl (zA hown3) ⟨w2.heap.size,0,none⟩ (atT xs k).t.size c3 (cellsB (atT xs k).t.data.toList) rfl (by rw [ZK]; simp) (zA HN3) (zFo _) ?b1 ?b2 ?b3 ?next)
    case b1=>unfold maxLen; omega
    case b2=>omega
    case b3=>exact hbel3.size
    case next=>
     intro v4 w4 hown4 hgrow4 hnil4
     have hg2:=(zA hown3).lt g2 rfl
     have hbel4:Below w.heap.size w w4:=hbel3.grown hgrow4 hbel3.size (fun q hq=>by simp [Value.ownBlock] at hq; omega)
     obtain ⟨g4,q4,rfl⟩:=ZS hown4 (by simp [hnil4])
     rw [<- zBC] at hown4
     have HO4:=zB (show w4.ownsRow w.heap.size 5 1 (.slice (some ⟨g4,0,none⟩) (n + (atT xs k).g.size + (atT xs k).t.size) q4) (n + (atT xs k).g.size + (atT xs k).t.size) (cellsB (zAJ xs (k + 1))) from hown4)
     have HL4:=zB (show n + (atT xs k).g.size + (atT xs k).t.size = (zAJ xs (k + 1)).length by rw [zCp]; have:=zA HNN; simp only [Zp,zNT]; omega)
     clear hown4 hgrow4 hnil4 hown3 HN3 HNN hn
     go_wp2
     exact ⟨⟨k + 1,g4,q4,_,by omega,by go_num,rfl,HL4,HO4,hbel4⟩,by simp [intOf]; omega⟩
  ·have hkx:k = xs.length:=by omega
   have hcv:=zEw wr go n co (zAJ xs k) (zA hn) (zIn (zA hown))
   have HK:=zB hkx
   clear hkx
   go_wp2
   go_ret
   exact ⟨zKP (by rw [zA HK]),hbel⟩
end Go.Proofs.YtgiemobdmbijiaaGreatDoor
namespace Go.Proofs.YtgiemobdmbijiaaGreatDoor
set_option linter.unusedSimpArgs false
set_option maxHeartbeats 16000000
set_option maxRecDepth 100000
open Go.RowKit
theorem zHR (ts:List zT):∀ i:Nat,-(i:Int) <= opI ts i /\ opI ts i <= (i:Int)
 | 0=>by simp [opI]
 | i + 1=>by
  have:=zHR ts i
  simp only [opI]
  split <;> split <;> omega
theorem zBj (b off cap n:Nat) (ts:List zT) (w:World) (hm:ts.length <= 1048576) (hn:n <= ts.length) (hw:zEP w b off ts) :
  Calls Tryz.prog 129 #[.slice (some ⟨b,off,none⟩) ts.length cap,.int .i64 (n:Int)] w fun e w'=>e = .returned (.int .i64 (opI ts n)) /\ w' = w:=by
 have HW:=zB hw
 clear hw
 go_enter Tryz.func129,Tryz.ntmps129
 go_wp2
 go_loop [5,6] (fun o i=>∃ k:Nat,k <= n /\ i = .int .i64 (k:Int) /\ o = .int .i64 (opI ts k)) (fun _ i=>n - (intOf i).toNat)
 case atStart=>exact ⟨0,Nat.zero_le _,rfl,rfl⟩
 case round=>
  obtain ⟨k,hk,rfl,rfl⟩:=hrel
  have hr:=zHR ts k
  by_cases hlt:k < n
  ·obtain ⟨a0,a1,a2⟩:=(zA HW) k (by omega)
   have hlt2:k < ts.length:=by omega
   have HS:=zB (show opI ts (k + 1) = opI ts k + (if (atT ts k).k = 4 then 1 else 0) - (if (atT ts k).k = 5 then 1 else 0) from rfl)
   go_wp2
   all_goals
    refine ⟨⟨k + 1,by omega,by go_num,?_⟩,by simp [intOf]; omega⟩
    rw [zA HS]
    go_light
    simp only [beq_iff_eq,beq_eq_false_iff_ne,ne_eq] at *
    first | (congr 1; split <;> split <;> omega) | simp [*] | (simp_all; omega)
  ·have HX:=zB (show k = n by omega)
   go_wp2
   go_ret
   exact ⟨zG (by rw [zA HX]),rfl⟩
def zBk (xs:List OpR) (ts:List zT) (k:Nat):List Bool:=(List.range (k + 1)).map (zAH xs ts)
def Zy (l:List Bool):List Value:=l.map fun b=>.bool b
theorem zAj (xs:List OpR) (ts:List zT) (k:Nat):Zy (zBk xs ts (k + 1)) = Zy (zBk xs ts k) ++ [.bool (zAH xs ts (k + 1))]:=by
 simp [zBk,Zy,List.range_succ (n:=k + 1)]
theorem zJI (xs:List OpR) (ts:List zT) (k i:Nat) (h:i <= k):(Zy (zBk xs ts k))[i]? = some (.bool (zAH xs ts i)):=by
 have:i < k + 1:=by omega
 simp [Zy,zBk,this]
theorem zMz:(Tryz.prog.info? 4).map (fun i=>(i.zero,i.size,i.bytes)) = some (some (.bool false),1,1):=by kernel_rfl
theorem Za (w:World) (n:Nat):w.grownBy (w.drewN n) none:=⟨rfl,rfl,rfl,Nat.le_refl _,fun _ _ _=>rfl⟩
theorem below_drewN (w:World) (n:Nat):Below w.heap.size w (w.drewN n):=⟨rfl,rfl,rfl,Nat.le_refl _,fun _ _=>rfl⟩
theorem zBB (w:World) (v:Bool):∀ j u,([Value.bool v])[j]? = some u -> (w.alloc (.cells #[.bool v] 4)).cell? ((⟨w.heap.size,0,none⟩:Addr).add j) = some u:=by
 intro j u hj
 rw [Addr.add_mid]
 have:=World.rangeAt_of_block (w:=w.alloc (.cells #[.bool v] 4)) (b:=w.heap.size) (heap_alloc_new w _) 0 1
 exact this j u (by simpa using hj)
theorem zH6 (b off cap b' off' cap':Nat) (xs:List OpR) (ts:List zT) (w:World) (hmx:xs.length <= 1048576) (hm:ts.length <= 1048576) (hw:Ops w b off xs) (hB:b < w.heap.size) (hw':zEP w b' off' ts) (hB':b' < w.heap.size) :
  Calls Tryz.prog 115 #[.agg #[.slice (some ⟨b,off,none⟩) xs.length cap],.slice (some ⟨b',off',none⟩) ts.length cap'] w fun e w'=>(∃ g c,e = .returned (.slice (some ⟨g,0,none⟩) (ts.length + 1) c) /\ w.heap.size <= g /\ g < w'.heap.size /\ ∀ i,i <= ts.length -> w'.cell? ⟨g,i,none⟩ = some (.bool (zAH xs ts i))) /\ Below w.heap.size w w':=by
 obtain ⟨i0,hi,hz0,hz1,hz2⟩:=info_parts zMz
 have HI:=zB hi
 have HZ:=zB (And.intro hz0 (And.intro hz1 hz2))
 have HW:=zB hw
 have HT:=zB hw'
 clear hi hz0 hz1 hz2 hw hw'
 have HO:=zB (show ((w.alloc (.cells #[.slice (some ⟨b,off,none⟩) xs.length cap] 55)).alloc (.cells #[.bool false] 4)).ownsRow (w.heap.size + 1) 4 1 (.slice (some ⟨w.heap.size + 1,0,none⟩) 1 1) 1 (Zy (zBk xs ts 0)) by
  have h0:=World.ownsRow_lit (base:=w.heap.size + 1) (e:=4) (size:=1) (w.alloc (.cells #[.slice (some ⟨b,off,none⟩) xs.length cap] 55)) #[.bool false] 1 (by simp) (by decide) rfl
  simpa [Zy,zBk,zAH] using h0)
 go_enter Tryz.func115,Tryz.ntmps115
 go_wp2_with fail
 go_loopw [5,6] (fun out i wr=>∃ (k g c:Nat),k <= ts.length /\ i = .int .i64 (k:Int) /\ out = .slice (some ⟨g,0,none⟩) (k + 1) c /\ Hid (wr.ownsRow (w.heap.size + 1) 4 1 (.slice (some ⟨g,0,none⟩) (k + 1) c) (k + 1) (Zy (zBk xs ts k))) /\ Below (w.heap.size + 1) (w.alloc (.cells #[.slice (some ⟨b,off,none⟩) xs.length cap] 55)) wr) (fun _ i _=>ts.length - (intOf i).toNat)
 case atStart=>exact ⟨0,w.heap.size + 1,1,Nat.zero_le _,rfl,rfl,HO,(zC _ _).mono (by simp)⟩
 case round=>
  clear HO
  obtain ⟨k,g,c,hk,rfl,rfl,hown,hbel⟩:=hrel
  have hbw:Below w.heap.size w wr:=(zC _ _).trans (hbel.mono (by omega))
  have zw:w.heap.size < wr.heap.size:=by have:=hbel.size; simp at this; omega
  have c0:wr.cell? ⟨w.heap.size,0,none⟩ = some (.slice (some ⟨b,off,none⟩) xs.length cap):=by
   rw [hbel.cell (p:=⟨w.heap.size,0,none⟩) (show w.heap.size < _ by omega)]; simp [go_sem]
  by_cases hlt:k < ts.length
  ·obtain ⟨a0,a1,a2⟩:=((zA HT) k hlt).below hbw hB'
   have s0:wr.cell? ⟨g,k,none⟩ = some (.bool (zAH xs ts k)):=((zA hown).cellAt k (by omega)).trans (zJI xs ts k k (Nat.le_refl _))
   have hltI:(k:Int) < (ts.length:Int):=by omega
   have hk1:(k:Int) < ((k + 1:Nat):Int):=by omega
   have hk1':(k:Int) < (k:Int) + 1:=by omega
   by_cases h3:(atT ts k).k = 3
   case pos=>
    have g1:((atT ts k).k == 1) = false:=by simp; omega
    have g2:((atT ts k).k == 2) = false:=by simp; omega
    have g5:((atT ts k).k == 5) = false:=by simp; omega
    have g3:((atT ts k).k == 3) = true:=by simpa using h3
    cases hst:zAH xs ts k
    ·rw [hst] at s0
     have HV:=zB (show zAH xs ts (k + 1) = false by simp [zAH,zCM,hst,h3])
     clear h3
     go_wp2_with fail
     go_quiet (fail)
     go_wp2_with (at_builtin; refine wpList_append_own _ rfl (.tmp 49) (.tmp 51) 91 rfl (w.heap.size + 1) 4 i0 _ 1 1 Tryz.underlying91 (zA HI) (zA HZ).1 (zA HZ).2.1 (zA HZ).2.2 rfl (by decide) _ (k + 1) (Zy (zBk xs ts k)) rfl (((zA hown).kept (Za wr nq) (Or.inr (by simp [Value.ownBlock]))).alloc _) ⟨(wr.drewN nq).heap.size,0,none⟩ 1 1 [.bool false] rfl rfl (zBB (wr.drewN nq) false) (by simp [Value.oneCell']) ?b1 ?b2 ?b3 ?next)
     case b1=>unfold maxLen; omega
     case b2=>omega
     case b3=>have:=(hbel.trans ((below_drewN wr nq).mono zw)).size; simp at this; simp; omega
     case next=>
      intro v4 w4 hown4 hgrow4 hnil4
      have hgo:=((zA hown).kept (Za wr nq) (Or.inr (by simp [Value.ownBlock]))).lt g rfl
      have hbel4:Below (w.heap.size + 1) (w.alloc (.cells #[.slice (some ⟨b,off,none⟩) xs.length cap] 55)) w4:=((hbel.trans ((below_drewN wr nq).mono zw)).alloc (by have:=(hbel.trans ((below_drewN wr nq).mono zw)).size; simp at this; omega) _).grown hgrow4 (by have:=(hbel.trans ((below_drewN wr nq).mono zw)).size; simp at this; simp; omega) (fun q hq=>by simp [Value.ownBlock] at hq; omega)
      obtain ⟨g4,c4,rfl⟩:=ZS hown4 (by simp [hnil4])
      rw [show [Value.bool false] = [.bool (zAH xs ts (k + 1))] by rw [zA HV],<- zAj] at hown4
      have HW4:=zB hown4
      clear hown4 hgrow4 hnil4
      go_wp2
      exact ⟨⟨k + 1,g4,c4,by omega,by go_num,rfl,HW4,hbel4⟩,by simp [intOf]; omega⟩
    ·rw [hst] at s0
     have HST:=zB hst
     have H3:=zB h3
     have zb:b < wr.heap.size:=by omega
     have zg:=(zA hown).lt g rfl
     clear h3
     go_wp2_with fail
     go_region_held (fun w'=>w'.cell? ⟨w.heap.size,0,none⟩ = some (.slice (some ⟨b,off,none⟩) xs.length cap) /\ w'.cell? ⟨g,k,none⟩ = some (.bool true) /\ w'.cell? ⟨b',off' + k * 3 + 2,none⟩ = some (.string (atT ts k).t)) (go_keep) (first | (go_at_call 105; refine (zAi b off cap xs (atT ts k).t 3 _ hmx ((zA HW).below hbw.drew hB) zb).mono ?_; rintro e w2 ⟨⟨r,rfl,hr⟩,hb2⟩; have HR:=zB hr; have HB2:=zB hb2; have q0:=(hb2.cell (p:=⟨w.heap.size,0,none⟩) zw).trans (show wr.drew.cell? ⟨w.heap.size,0,none⟩ = _ from c0); have q1:=(hb2.cell (p:=⟨g,k,none⟩) zg.2).trans (show wr.drew.cell? ⟨g,k,none⟩ = _ from s0); have q2:=(hb2.cell (p:=⟨b',off' + k * 3 + 2,none⟩) (Nat.lt_of_lt_of_le hB' (Nat.le_of_lt zw))).trans (show wr.drew.cell? ⟨b',off' + k * 3 + 2,none⟩ = _ from a2); clear hr hb2))
     have hbel2:=hbel.drew.trans ((zA HB2).mono zw)
     have HOW2:=zB ((zA hown).drew.kept (zAS (zA HB2) none) (Or.inr (by simp [Value.ownBlock])))
     by_cases hr0:0 <= r
     ·have HV:=zB (show zAH xs ts (k + 1) = true by
       have:=(zAG xs (atT ts k).t 3).2 ((zA HR).1 hr0)
       simp [zAH,zCM,zA HST,zA H3,this])
      go_wp2_with (at_builtin; refine wpList_append_own _ rfl (.tmp 49) (.tmp 51) 91 rfl (w.heap.size + 1) 4 i0 _ 1 1 Tryz.underlying91 (zA HI) (zA HZ).1 (zA HZ).2.1 (zA HZ).2.2 rfl (by decide) _ (k + 1) (Zy (zBk xs ts k)) rfl ((zA HOW2).alloc _) ⟨(w2).heap.size,0,none⟩ 1 1 [.bool true] rfl rfl (zBB (w2) true) (by simp [Value.oneCell']) ?b1 ?b2 ?b3 ?next)
      case b1=>unfold maxLen; omega
      case b2=>omega
      case b3=>have:=(hbel2).size; simp at this; simp; omega
      case next=>
       intro v4 w4 hown4 hgrow4 hnil4
       have hgo:=(zA HOW2).lt g rfl
       have hbel4:Below (w.heap.size + 1) (w.alloc (.cells #[.slice (some ⟨b,off,none⟩) xs.length cap] 55)) w4:=((hbel2).alloc (by have:=(hbel2).size; simp at this; omega) _).grown hgrow4 (by have:=(hbel2).size; simp at this; simp; omega) (fun q hq=>by simp [Value.ownBlock] at hq; omega)
       obtain ⟨g4,c4,rfl⟩:=ZS hown4 (by simp [hnil4])
       rw [show [Value.bool true] = [.bool (zAH xs ts (k + 1))] by rw [zA HV],<- zAj] at hown4
       have HW4:=zB hown4
       clear hown4 hgrow4 hnil4
       go_wp2
       exact ⟨⟨k + 1,g4,c4,by omega,by go_num,rfl,HW4,hbel4⟩,by simp [intOf]; omega⟩
     ·have HV:=zB (show zAH xs ts (k + 1) = false by
       have:Zl xs (atT ts k).t 3 = false:=by
        cases h:Zl xs (atT ts k).t 3
        ·rfl
        ·exact absurd ((zA HR).2 ((zAG xs (atT ts k).t 3).1 h)) hr0
       simp [zAH,zCM,zA HST,zA H3,this])
      have hr0':decide (0 <= r) = false:=decide_eq_false hr0
      go_wp2_with (at_builtin; refine wpList_append_own _ rfl (.tmp 49) (.tmp 51) 91 rfl (w.heap.size + 1) 4 i0 _ 1 1 Tryz.underlying91 (zA HI) (zA HZ).1 (zA HZ).2.1 (zA HZ).2.2 rfl (by decide) _ (k + 1) (Zy (zBk xs ts k)) rfl ((zA HOW2).alloc _) ⟨(w2).heap.size,0,none⟩ 1 1 [.bool false] rfl rfl (zBB (w2) false) (by simp [Value.oneCell']) ?b1 ?b2 ?b3 ?next)
      case b1=>unfold maxLen; omega
      case b2=>omega
      case b3=>have:=(hbel2).size; simp at this; simp; omega
      case next=>
       intro v4 w4 hown4 hgrow4 hnil4
       have hgo:=(zA HOW2).lt g rfl
       have hbel4:Below (w.heap.size + 1) (w.alloc (.cells #[.slice (some ⟨b,off,none⟩) xs.length cap] 55)) w4:=((hbel2).alloc (by have:=(hbel2).size; simp at this; omega) _).grown hgrow4 (by have:=(hbel2).size; simp at this; simp; omega) (fun q hq=>by simp [Value.ownBlock] at hq; omega)
       obtain ⟨g4,c4,rfl⟩:=ZS hown4 (by simp [hnil4])
       rw [show [Value.bool false] = [.bool (zAH xs ts (k + 1))] by rw [zA HV],<- zAj] at hown4
       have HW4:=zB hown4
       clear hown4 hgrow4 hnil4
       go_wp2
       exact ⟨⟨k + 1,g4,c4,by omega,by go_num,rfl,HW4,hbel4⟩,by simp [intOf]; omega⟩
   have h1:(atT ts k).k = 1 \/ (atT ts k).k = 2 \/ (atT ts k).k = 5 \/ ((atT ts k).k ≠ 1 /\ (atT ts k).k ≠ 2 /\ (atT ts k).k ≠ 5):=by omega
   rcases h1 with h1 | h1 | h1 | h1
   ·have g1:((atT ts k).k == 1) = true:=by simp; omega
    have g2:((atT ts k).k == 2) = false:=by simp; omega
    have g5:((atT ts k).k == 5) = false:=by simp; omega
    have g3:((atT ts k).k == 3) = false:=by simp; omega
    have HV:=zB (show zAH xs ts (k + 1) = true by simp [zAH,zCM,h3]; omega)
    clear h3
    go_wp2_with fail
    go_quiet (fail)
    go_wp2_with (at_builtin; refine wpList_append_own _ rfl (.tmp 49) (.tmp 51) 91 rfl (w.heap.size + 1) 4 i0 _ 1 1 Tryz.underlying91 (zA HI) (zA HZ).1 (zA HZ).2.1 (zA HZ).2.2 rfl (by decide) _ (k + 1) (Zy (zBk xs ts k)) rfl (((zA hown).kept (Za wr nq) (Or.inr (by simp [Value.ownBlock]))).alloc _) ⟨(wr.drewN nq).heap.size,0,none⟩ 1 1 [.bool true] rfl rfl (zBB (wr.drewN nq) true) (by simp [Value.oneCell']) ?b1 ?b2 ?b3 ?next)
    case b1=>unfold maxLen; omega
    case b2=>omega
    case b3=>have:=(hbel.trans ((below_drewN wr nq).mono zw)).size; simp at this; simp; omega
    case next=>
     intro v4 w4 hown4 hgrow4 hnil4
     have hgo:=((zA hown).kept (Za wr nq) (Or.inr (by simp [Value.ownBlock]))).lt g rfl
     have hbel4:Below (w.heap.size + 1) (w.alloc (.cells #[.slice (some ⟨b,off,none⟩) xs.length cap] 55)) w4:=((hbel.trans ((below_drewN wr nq).mono zw)).alloc (by have:=(hbel.trans ((below_drewN wr nq).mono zw)).size; simp at this; omega) _).grown hgrow4 (by have:=(hbel.trans ((below_drewN wr nq).mono zw)).size; simp at this; simp; omega) (fun q hq=>by simp [Value.ownBlock] at hq; omega)
     obtain ⟨g4,c4,rfl⟩:=ZS hown4 (by simp [hnil4])
     rw [show [Value.bool true] = [.bool (zAH xs ts (k + 1))] by rw [zA HV],<- zAj] at hown4
     have HW4:=zB hown4
     clear hown4 hgrow4 hnil4
     go_wp2
     exact ⟨⟨k + 1,g4,c4,by omega,by go_num,rfl,HW4,hbel4⟩,by simp [intOf]; omega⟩
   ·have g1:((atT ts k).k == 1) = false:=by simp; omega
    have g2:((atT ts k).k == 2) = true:=by simp; omega
    have g5:((atT ts k).k == 5) = false:=by simp; omega
    have g3:((atT ts k).k == 3) = false:=by simp; omega
    have HV:=zB (show zAH xs ts (k + 1) = true by simp [zAH,zCM,h3]; omega)
    clear h3
    go_wp2_with fail
    go_quiet (fail)
    go_wp2_with (at_builtin; refine wpList_append_own _ rfl (.tmp 49) (.tmp 51) 91 rfl (w.heap.size + 1) 4 i0 _ 1 1 Tryz.underlying91 (zA HI) (zA HZ).1 (zA HZ).2.1 (zA HZ).2.2 rfl (by decide) _ (k + 1) (Zy (zBk xs ts k)) rfl (((zA hown).kept (Za wr nq) (Or.inr (by simp [Value.ownBlock]))).alloc _) ⟨(wr.drewN nq).heap.size,0,none⟩ 1 1 [.bool true] rfl rfl (zBB (wr.drewN nq) true) (by simp [Value.oneCell']) ?b1 ?b2 ?b3 ?next)
    case b1=>unfold maxLen; omega
    case b2=>omega
    case b3=>have:=(hbel.trans ((below_drewN wr nq).mono zw)).size; simp at this; simp; omega
    case next=>
     intro v4 w4 hown4 hgrow4 hnil4
     have hgo:=((zA hown).kept (Za wr nq) (Or.inr (by simp [Value.ownBlock]))).lt g rfl
     have hbel4:Below (w.heap.size + 1) (w.alloc (.cells #[.slice (some ⟨b,off,none⟩) xs.length cap] 55)) w4:=((hbel.trans ((below_drewN wr nq).mono zw)).alloc (by have:=(hbel.trans ((below_drewN wr nq).mono zw)).size; simp at this; omega) _).grown hgrow4 (by have:=(hbel.trans ((below_drewN wr nq).mono zw)).size; simp at this; simp; omega) (fun q hq=>by simp [Value.ownBlock] at hq; omega)
     obtain ⟨g4,c4,rfl⟩:=ZS hown4 (by simp [hnil4])
     rw [show [Value.bool true] = [.bool (zAH xs ts (k + 1))] by rw [zA HV],<- zAj] at hown4
     have HW4:=zB hown4
     clear hown4 hgrow4 hnil4
     go_wp2
     exact ⟨⟨k + 1,g4,c4,by omega,by go_num,rfl,HW4,hbel4⟩,by simp [intOf]; omega⟩
   ·have g1:((atT ts k).k == 1) = false:=by simp; omega
    have g2:((atT ts k).k == 2) = false:=by simp; omega
    have g5:((atT ts k).k == 5) = true:=by simp; omega
    have g3:((atT ts k).k == 3) = false:=by simp; omega
    have HV:=zB (show zAH xs ts (k + 1) = true by simp [zAH,zCM,h3]; omega)
    clear h3
    go_wp2_with fail
    go_quiet (fail)
    go_wp2_with (at_builtin; refine wpList_append_own _ rfl (.tmp 49) (.tmp 51) 91 rfl (w.heap.size + 1) 4 i0 _ 1 1 Tryz.underlying91 (zA HI) (zA HZ).1 (zA HZ).2.1 (zA HZ).2.2 rfl (by decide) _ (k + 1) (Zy (zBk xs ts k)) rfl (((zA hown).kept (Za wr nq) (Or.inr (by simp [Value.ownBlock]))).alloc _) ⟨(wr.drewN nq).heap.size,0,none⟩ 1 1 [.bool true] rfl rfl (zBB (wr.drewN nq) true) (by simp [Value.oneCell']) ?b1 ?b2 ?b3 ?next)
    case b1=>unfold maxLen; omega
    case b2=>omega
    case b3=>have:=(hbel.trans ((below_drewN wr nq).mono zw)).size; simp at this; simp; omega
    case next=>
     intro v4 w4 hown4 hgrow4 hnil4
     have hgo:=((zA hown).kept (Za wr nq) (Or.inr (by simp [Value.ownBlock]))).lt g rfl
     have hbel4:Below (w.heap.size + 1) (w.alloc (.cells #[.slice (some ⟨b,off,none⟩) xs.length cap] 55)) w4:=((hbel.trans ((below_drewN wr nq).mono zw)).alloc (by have:=(hbel.trans ((below_drewN wr nq).mono zw)).size; simp at this; omega) _).grown hgrow4 (by have:=(hbel.trans ((below_drewN wr nq).mono zw)).size; simp at this; simp; omega) (fun q hq=>by simp [Value.ownBlock] at hq; omega)
     obtain ⟨g4,c4,rfl⟩:=ZS hown4 (by simp [hnil4])
     rw [show [Value.bool true] = [.bool (zAH xs ts (k + 1))] by rw [zA HV],<- zAj] at hown4
     have HW4:=zB hown4
     clear hown4 hgrow4 hnil4
     go_wp2
     exact ⟨⟨k + 1,g4,c4,by omega,by go_num,rfl,HW4,hbel4⟩,by simp [intOf]; omega⟩
   ·have g1:((atT ts k).k == 1) = false:=by simp; omega
    have g2:((atT ts k).k == 2) = false:=by simp; omega
    have g5:((atT ts k).k == 5) = false:=by simp; omega
    have g3:((atT ts k).k == 3) = false:=by simp; omega
    have HV:=zB (show zAH xs ts (k + 1) = false by simp [zAH,zCM,h3]; omega)
    clear h3
    go_wp2_with fail
    go_quiet (fail)
    go_wp2_with (at_builtin; refine wpList_append_own _ rfl (.tmp 49) (.tmp 51) 91 rfl (w.heap.size + 1) 4 i0 _ 1 1 Tryz.underlying91 (zA HI) (zA HZ).1 (zA HZ).2.1 (zA HZ).2.2 rfl (by decide) _ (k + 1) (Zy (zBk xs ts k)) rfl (((zA hown).kept (Za wr nq) (Or.inr (by simp [Value.ownBlock]))).alloc _) ⟨(wr.drewN nq).heap.size,0,none⟩ 1 1 [.bool false] rfl rfl (zBB (wr.drewN nq) false) (by simp [Value.oneCell']) ?b1 ?b2 ?b3 ?next)
    case b1=>unfold maxLen; omega
    case b2=>omega
    case b3=>have:=(hbel.trans ((below_drewN wr nq).mono zw)).size; simp at this; simp; omega
    case next=>
     intro v4 w4 hown4 hgrow4 hnil4
     have hgo:=((zA hown).kept (Za wr nq) (Or.inr (by simp [Value.ownBlock]))).lt g rfl
     have hbel4:Below (w.heap.size + 1) (w.alloc (.cells #[.slice (some ⟨b,off,none⟩) xs.length cap] 55)) w4:=((hbel.trans ((below_drewN wr nq).mono zw)).alloc (by have:=(hbel.trans ((below_drewN wr nq).mono zw)).size; simp at this; omega) _).grown hgrow4 (by have:=(hbel.trans ((below_drewN wr nq).mono zw)).size; simp at this; simp; omega) (fun q hq=>by simp [Value.ownBlock] at hq; omega)
     obtain ⟨g4,c4,rfl⟩:=ZS hown4 (by simp [hnil4])
     rw [show [Value.bool false] = [.bool (zAH xs ts (k + 1))] by rw [zA HV],<- zAj] at hown4
     have HW4:=zB hown4
     clear hown4 hgrow4 hnil4
     go_wp2
     exact ⟨⟨k + 1,g4,c4,by omega,by go_num,rfl,HW4,hbel4⟩,by simp [intOf]; omega⟩
  ·have HX:=zB (show k = ts.length by omega)
   have hg:=(zA hown).lt g rfl
   have hcs:=zB (fun i (hi:i <= k)=>((zA hown).cellAt i (by omega)).trans (zJI xs ts k i hi))
   go_wp2
   go_ret
   have e:=zA HX
   subst e
   exact ⟨⟨g,c,rfl,by omega,hg.2,fun i hi=>(zA hcs) i hi⟩,hbw⟩
end Go.Proofs.YtgiemobdmbijiaaGreatDoor
